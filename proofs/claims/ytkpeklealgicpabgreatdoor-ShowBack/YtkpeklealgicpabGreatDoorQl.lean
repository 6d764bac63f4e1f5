/-
  The document's own small functions (package overhaulref), as the laws call them: they answer the same plain functions.
  The document's 'TokenWrong' and 'ScanOf' (package overhaulref): they answer the same plain functions as the program's.
  The document's 'IsToken' (package overhaulref): it is what 'alone' asks.
  The document's reader in memory: its small methods.
  The document's own small functions (package overhaulref), as ValueTells calls them.
  'CheckValue' of package overhaulref.
  The document's small functions of commands: ArgsOf, nameIs, NoExpr, PlainExpr.
  The document's PlainExpr, and PartsOf.
  The document's isExpr, of any expression in memory.
  CheckCmd of the document, of any command in memory.
  The printer: listed columns.
-/
import Derived.Deep.Cut
import Derived.Test.YtkpeklealgicpabGreatDoorQa
import Derived.Test.YtkpeklealgicpabGreatDoorQb
import Derived.Test.YtkpeklealgicpabGreatDoorQg
import Derived.Test.YtkpeklealgicpabGreatDoorQi
import Derived.Test.YtkpeklealgicpabGreatDoorQj
import Derived.Test.YtkpeklealgicpabGreatDoorQk

set_option maxRecDepth 100000
set_option maxHeartbeats 8000000
namespace Go.Proofs.YtkpeklealgicpabGreatDoor
open Go.RowKit
theorem yce (n a b:Int) (w:World) :
  Calls Tryz.prog 31 #[.int .i64 n,.int .i64 a,.int .i64 b] w fun e w'=>e=.returned (.bool (decide (a≤n)&&decide (n≤b)))∧w'=w:=by
 go_enter Tryz.func31,Tryz.ntmps31
 go_wp2
 all_goals go_ret
 all_goals exact ⟨yaF (by simp [*] <;> omega),rfl⟩
theorem ypm (c:UInt8) (w:World) :
  Calls Tryz.prog 113 #[.int .u8 (c.toNat:Int)] w fun e w'=>e=.returned (.bool (isL c))∧w'=w:=by
 have hc:(c.toNat:Int)≤255:=by have:=c.toNat_lt;omega
 go_enter Tryz.func113,Tryz.ntmps113
 go_wp2_with (go_at_call 31;refine (yce _ _ _ _).mono ?_;rintro e w' ⟨rfl,rfl⟩)
 go_ret
 exact ⟨yaF (by rfl),rfl⟩
theorem yjo (c:UInt8) (w:World) :
  Calls Tryz.prog 114 #[.int .u8 (c.toNat:Int)] w fun e w'=>e=.returned (.bool (isD c))∧w'=w:=by
 have hc:(c.toNat:Int)≤255:=by have:=c.toNat_lt;omega
 go_enter Tryz.func114,Tryz.ntmps114
 go_wp2_with (go_at_call 31;refine (yce _ _ _ _).mono ?_;rintro e w' ⟨rfl,rfl⟩)
 go_ret
 exact ⟨yaF (by rfl),rfl⟩
theorem yjp (c:UInt8) (w:World) :
  Calls Tryz.prog 82 #[.int .u8 (c.toNat:Int)] w fun e w'=>e=.returned (.bool (isQ c))∧w'=w:=by
 have hc:(c.toNat:Int)≤255:=by have:=c.toNat_lt;omega
 cases h:(decide ((32:Int)≤(c.toNat:Int))&&decide ((c.toNat:Int)≤126))
 ·have H:Hid ((decide ((32:Int)≤(c.toNat:Int))&&decide ((c.toNat:Int)≤126))=false):=h
  have hb:=yce c.toNat 32 126
  rw [h] at hb
  clear h
  go_enter Tryz.func82,Tryz.ntmps82
  go_wp2_with (go_at_call 31;refine (hb _).mono ?_;rintro e w' ⟨rfl,rfl⟩)
  go_ret
  exact ⟨yaF (by unfold isQ;rw [H.out];rfl),rfl⟩
 ·have H:Hid ((decide ((32:Int)≤(c.toNat:Int))&&decide ((c.toNat:Int)≤126))=true):=h
  have hb:=yce c.toNat 32 126
  rw [h] at hb
  clear h
  go_enter Tryz.func82,Tryz.ntmps82
  go_wp2_with (go_at_call 31;refine (hb _).mono ?_;rintro e w' ⟨rfl,rfl⟩)
  go_ret
  exact ⟨yaF (by unfold isQ;rw [H.out];rfl),rfl⟩
theorem ycR {c:UInt8} {b:Bool} (h:isL c=b) (w:World):Calls Tryz.prog 113 #[.int .u8 (c.toNat:Int)] w fun e w'=>e=.returned (.bool b)∧w'=w:=by
 rw [← h];exact ypm c w
theorem ycr {c:UInt8} {b:Bool} (h:isD c=b) (w:World):Calls Tryz.prog 114 #[.int .u8 (c.toNat:Int)] w fun e w'=>e=.returned (.bool b)∧w'=w:=by
 rw [← h];exact yjo c w
theorem ygG {c:UInt8} {b:Bool} (h:isQ c=b) (w:World):Calls Tryz.prog 82 #[.int .u8 (c.toNat:Int)] w fun e w'=>e=.returned (.bool b)∧w'=w:=by
 rw [← h];exact yjp c w
theorem yp6 (s:ByteArray) (a:Nat) (w:World) (hs:s.size≤2000) (ha:a < s.size) (hc:isL s[a]=true) :
  Calls Tryz.prog 58 #[.string s,.int .i64 (a:Int)] w fun e w'=>e=.returned (.tuple #[.int .i64 1,.int .i64 ((yav isW s (a+1) - a:Nat):Int)])∧w'=w:=by
 have h1:=ycR hc
 clear hc
 go_enter Tryz.func58,Tryz.ntmps58
 go_wp2_with (go_at_call 113;refine (h1 _).mono ?_;rintro e w' ⟨rfl,hw'⟩;obtain rfl:=hw'.symm;clear hw')
 clear h1
 go_loop [7] (fun i=>∃ n:Nat,1≤n∧a+n≤s.size∧i=.int .i64 n∧Hid (yav isW s (a+n)=yav isW s (a+1))) (fun i=>s.size - (intOf i).toNat)
 case atStart=>exact ⟨1,by omega,by omega,rfl,rfl⟩
 case round =>
  obtain ⟨n,hn1,hn2,rfl,HE⟩:=hrel
  by_cases hlt:a+n < s.size
  ·cases hL:isL s[a+n]
   ·cases hD:isD s[a+n]
    ·have h1:=ycR hL
     have h2:=ycr hD
     have hend:=yc9 isW s (a+n) hlt (by simp [isW,hL,hD])
     rw [HE.out] at hend
     have HG:Hid (yav isW s (a+1)=a+n):=hend
     clear hend HE hL hD
     go_wp2_with (first|(go_at_call 113;refine (h1 _).mono ?_;rintro e w' ⟨rfl,hw'⟩;obtain rfl:=hw'.symm;clear hw')|(go_at_call 114;refine (h2 _).mono ?_;rintro e w' ⟨rfl,hw'⟩;obtain rfl:=hw'.symm;clear hw'))
     go_ret2
     rw [HG.out,Nat.add_sub_cancel_left]
     exact ⟨rfl,rfl⟩
    ·have h1:=ycR hL
     have h2:=ycr hD
     have hend:=yb2 isW s (a+n) hlt (by simp [isW,hL,hD])
     rw [HE.out] at hend
     have HG:Hid (yav isW s (a+(n+1))=yav isW s (a+1)):=hend.symm
     clear hend HE hL hD
     go_wp2_with (first|(go_at_call 113;refine (h1 _).mono ?_;rintro e w' ⟨rfl,hw'⟩;obtain rfl:=hw'.symm;clear hw')|(go_at_call 114;refine (h2 _).mono ?_;rintro e w' ⟨rfl,hw'⟩;obtain rfl:=hw'.symm;clear hw'))
     go_round
     case rel=>exact ⟨n+1,by omega,by omega,by go_num,HG⟩
     case measure=>simp [intOf];omega
   ·have h1:=ycR hL
    have hend:=yb2 isW s (a+n) hlt (by simp [isW,hL])
    rw [HE.out] at hend
    have HG:Hid (yav isW s (a+(n+1))=yav isW s (a+1)):=hend.symm
    clear hend HE hL
    go_wp2_with (go_at_call 113;refine (h1 _).mono ?_;rintro e w' ⟨rfl,hw'⟩;obtain rfl:=hw'.symm;clear hw')
    go_round
    case rel=>exact ⟨n+1,by omega,by omega,by go_num,HG⟩
    case measure=>simp [intOf];omega
  ·have hend:=ycM isW s (a+n) hlt
   rw [HE.out] at hend
   have HG:Hid (yav isW s (a+1)=a+n):=hend
   clear hend HE
   go_wp2
   go_ret2
   rw [HG.out,Nat.add_sub_cancel_left]
   exact ⟨rfl,rfl⟩
theorem yle (s:ByteArray) (a:Nat) (w:World) (hs:s.size≤2000) (ha:a < s.size) (hc:isL s[a]=false) (hd:isD s[a]=true) :
  Calls Tryz.prog 58 #[.string s,.int .i64 (a:Int)] w fun e w'=>e=.returned (.tuple #[.int .i64 2,.int .i64 ((yav isD s (a+1) - a:Nat):Int)])∧w'=w:=by
 have h1:=ycR hc
 have h2:=ycr hd
 clear hc hd
 go_enter Tryz.func58,Tryz.ntmps58
 go_wp2_with (first|(go_at_call 113;refine (h1 _).mono ?_;rintro e w' ⟨rfl,hw'⟩;obtain rfl:=hw'.symm;clear hw')|(go_at_call 114;refine (h2 _).mono ?_;rintro e w' ⟨rfl,hw'⟩;obtain rfl:=hw'.symm;clear hw'))
 clear h1 h2
 go_loop [7] (fun i=>∃ n:Nat,1≤n∧a+n≤s.size∧i=.int .i64 n∧Hid (yav isD s (a+n)=yav isD s (a+1))) (fun i=>s.size - (intOf i).toNat)
 case atStart=>exact ⟨1,by omega,by omega,rfl,rfl⟩
 case round =>
  obtain ⟨n,hn1,hn2,rfl,HE⟩:=hrel
  by_cases hlt:a+n < s.size
  ·cases hD:isD s[a+n]
   ·have h2:=ycr hD
    have hend:=yc9 isD s (a+n) hlt hD
    rw [HE.out] at hend
    have HG:Hid (yav isD s (a+1)=a+n):=hend
    clear hend HE hD
    go_wp2_with (go_at_call 114;refine (h2 _).mono ?_;rintro e w' ⟨rfl,hw'⟩;obtain rfl:=hw'.symm;clear hw')
    go_ret2
    rw [HG.out,Nat.add_sub_cancel_left]
    exact ⟨rfl,rfl⟩
   ·have h2:=ycr hD
    have hend:=yb2 isD s (a+n) hlt hD
    rw [HE.out] at hend
    have HG:Hid (yav isD s (a+(n+1))=yav isD s (a+1)):=hend.symm
    clear hend HE hD
    go_wp2_with (go_at_call 114;refine (h2 _).mono ?_;rintro e w' ⟨rfl,hw'⟩;obtain rfl:=hw'.symm;clear hw')
    go_round
    case rel=>exact ⟨n+1,by omega,by omega,by go_num,HG⟩
    case measure=>simp [intOf];omega
  ·have hend:=ycM isD s (a+n) hlt
   rw [HE.out] at hend
   have HG:Hid (yav isD s (a+1)=a+n):=hend
   clear hend HE
   go_wp2
   go_ret2
   rw [HG.out,Nat.add_sub_cancel_left]
   exact ⟨rfl,rfl⟩
theorem yqa (s:ByteArray) (a:Nat) (w:World) (hs:s.size≤2000) (ha:a < s.size) (hc:isL s[a]=false) (hd:isD s[a]=false) (hq:((s[a].toNat:Int) == 39)=true)
  (hyp:∃ h:yav isQ s (a+1) < s.size,((s[yav isQ s (a+1)].toNat:Int) == 39)=true) :
  Calls Tryz.prog 58 #[.string s,.int .i64 (a:Int)] w fun e w'=>e=.returned (.tuple #[.int .i64 3,.int .i64 ((yav isQ s (a+1) - a+1:Nat):Int)])∧w'=w:=by
 have h1:=ycR hc
 have h2:=ycr hd
 have HZ:=yae hyp
 clear hc hd hyp
 go_enter Tryz.func58,Tryz.ntmps58
 go_wp2_with (first|(go_at_call 113;refine (h1 _).mono ?_;rintro e w' ⟨rfl,hw'⟩;obtain rfl:=hw'.symm;clear hw')|(go_at_call 114;refine (h2 _).mono ?_;rintro e w' ⟨rfl,hw'⟩;obtain rfl:=hw'.symm;clear hw'))
 clear h1 h2
 go_loop [7] (fun i=>∃ n:Nat,1≤n∧a+n≤s.size∧i=.int .i64 n∧Hid (yav isQ s (a+n)=yav isQ s (a+1))) (fun i=>s.size - (intOf i).toNat)
 case atStart=>exact ⟨1,by omega,by omega,rfl,rfl⟩
 case round =>
  obtain ⟨n,hn1,hn2,rfl,HE⟩:=hrel
  by_cases hlt:a+n < s.size
  ·cases hD:isQ s[a+n]
   ·have h2:=ygG hD
    have hend:=yc9 isQ s (a+n) hlt hD
    rw [HE.out] at hend
    have HG:Hid (yav isQ s (a+1)=a+n):=hend
    clear hend HE hD
    have hz:((s[a+n].toNat:Int) == 39)=true:=by obtain ⟨h,hz⟩:=HZ.out;simpa only [HG.out] using hz
    go_wp2_with (go_at_call 82;refine (h2 _).mono ?_;rintro e w' ⟨rfl,hw'⟩;obtain rfl:=hw'.symm;clear hw')
    go_ret2
    rw [HG.out,Nat.add_sub_cancel_left]
    exact ⟨rfl,rfl⟩
   ·have h2:=ygG hD
    have hend:=yb2 isQ s (a+n) hlt hD
    rw [HE.out] at hend
    have HG:Hid (yav isQ s (a+(n+1))=yav isQ s (a+1)):=hend.symm
    clear hend HE hD
    go_wp2_with (go_at_call 82;refine (h2 _).mono ?_;rintro e w' ⟨rfl,hw'⟩;obtain rfl:=hw'.symm;clear hw')
    go_round
    case rel=>exact ⟨n+1,by omega,by omega,by go_num,HG⟩
    case measure=>simp [intOf];omega
  ·have hend:=ycM isQ s (a+n) hlt
   rw [HE.out] at hend
   have HG:Hid (yav isQ s (a+1)=a+n):=hend
   clear hend HE
   exact absurd (HZ.out.1) (by rw [HG.out];exact hlt)
theorem yp8 (s:ByteArray) (a:Nat) (w:World) (hs:s.size≤2000) (ha:a < s.size) (hc:isL s[a]=false) (hd:isD s[a]=false) (hq:((s[a].toNat:Int) == 39)=true)
  (hyp:¬ ∃ h:yav isQ s (a+1) < s.size,((s[yav isQ s (a+1)].toNat:Int) == 39)=true) :
  Calls Tryz.prog 58 #[.string s,.int .i64 (a:Int)] w fun e w'=>e=.returned (.tuple #[.int .i64 0,.int .i64 0])∧w'=w:=by
 have h1:=ycR hc
 have h2:=ycr hd
 have HZ:=yae hyp
 clear hc hd hyp
 go_enter Tryz.func58,Tryz.ntmps58
 go_wp2_with (first|(go_at_call 113;refine (h1 _).mono ?_;rintro e w' ⟨rfl,hw'⟩;obtain rfl:=hw'.symm;clear hw')|(go_at_call 114;refine (h2 _).mono ?_;rintro e w' ⟨rfl,hw'⟩;obtain rfl:=hw'.symm;clear hw'))
 clear h1 h2
 go_loop [7] (fun i=>∃ n:Nat,1≤n∧a+n≤s.size∧i=.int .i64 n∧Hid (yav isQ s (a+n)=yav isQ s (a+1))) (fun i=>s.size - (intOf i).toNat)
 case atStart=>exact ⟨1,by omega,by omega,rfl,rfl⟩
 case round =>
  obtain ⟨n,hn1,hn2,rfl,HE⟩:=hrel
  by_cases hlt:a+n < s.size
  ·cases hD:isQ s[a+n]
   ·have h2:=ygG hD
    have hend:=yc9 isQ s (a+n) hlt hD
    rw [HE.out] at hend
    have HG:Hid (yav isQ s (a+1)=a+n):=hend
    clear hend HE hD
    have hz:((s[a+n].toNat:Int) == 39)=false:=by
     cases hz:((s[a+n].toNat:Int) == 39)
     ·rfl
     ·exact absurd ⟨by rw [HG.out];exact hlt,by simpa only [HG.out] using hz⟩ HZ.out
    go_wp2_with (go_at_call 82;refine (h2 _).mono ?_;rintro e w' ⟨rfl,hw'⟩;obtain rfl:=hw'.symm;clear hw')
    go_ret2
    exact ⟨rfl,rfl⟩
   ·have h2:=ygG hD
    have hend:=yb2 isQ s (a+n) hlt hD
    rw [HE.out] at hend
    have HG:Hid (yav isQ s (a+(n+1))=yav isQ s (a+1)):=hend.symm
    clear hend HE hD
    go_wp2_with (go_at_call 82;refine (h2 _).mono ?_;rintro e w' ⟨rfl,hw'⟩;obtain rfl:=hw'.symm;clear hw')
    go_round
    case rel=>exact ⟨n+1,by omega,by omega,by go_num,HG⟩
    case measure=>simp [intOf];omega
  ·have hend:=ycM isQ s (a+n) hlt
   rw [HE.out] at hend
   have HG:Hid (yav isQ s (a+1)=a+n):=hend
   clear hend HE
   go_wp2
   go_ret2
   exact ⟨rfl,rfl⟩
theorem yp5 (s:ByteArray) (a:Nat) (w:World) (hs:s.size≤2000) (ha:a+1 < s.size) (hc:isL s[a]=false) (hd:isD s[a]=false) (hq:((s[a].toNat:Int) == 39)=false)
  (hp:((s[a].toNat:Int) == 124)=true) (hp2:((s[a+1].toNat:Int) == 124)=true) :
  Calls Tryz.prog 58 #[.string s,.int .i64 (a:Int)] w fun e w'=>e=.returned (.tuple #[.int .i64 4,.int .i64 2])∧w'=w:=by
 have h1:=ycR hc
 have h2:=ycr hd
 clear hc hd
 go_enter Tryz.func58,Tryz.ntmps58
 go_wp2_with (first|(go_at_call 113;refine (h1 _).mono ?_;rintro e w' ⟨rfl,hw'⟩;obtain rfl:=hw'.symm;clear hw')|(go_at_call 114;refine (h2 _).mono ?_;rintro e w' ⟨rfl,hw'⟩;obtain rfl:=hw'.symm;clear hw'))
 go_ret2
 exact ⟨rfl,rfl⟩
def sg:List UInt8:=[40,41,44,59,42,61,60,43,45]
theorem yuo (n:Nat) (h:n < sg.length) (h':n < (⟨#[40,41,44,59,42,61,60,43,45]⟩:ByteArray).size):(⟨#[40,41,44,59,42,61,60,43,45]⟩:ByteArray)[n]=sg[n]'h:=rfl
theorem ygL {c:UInt8} {n:Nat} (h':n < (⟨#[40,41,44,59,42,61,60,43,45]⟩:ByteArray).size) (HE:∀ j (h:j < sg.length),j < n→sg[j]≠c)
  (hz:(((⟨#[40,41,44,59,42,61,60,43,45]⟩:ByteArray)[n].toNat:Int) == (c.toNat:Int))=false):∀ j (h:j < sg.length),j < n+1→sg[j]≠c:=by
 intro j h hj
 by_cases e:j=n
 ·subst e
  intro e2
  have hz2:((sg[j].toNat:Int) == (c.toNat:Int))=false:=hz
  exact (beq_eq_false_iff_ne.1 hz2) (congrArg (fun x:UInt8=>(x.toNat:Int)) e2)
 ·exact HE j h (by omega)
theorem ynl {c:UInt8} {n:Nat} (h':n < (⟨#[40,41,44,59,42,61,60,43,45]⟩:ByteArray).size)
  (hz:(((⟨#[40,41,44,59,42,61,60,43,45]⟩:ByteArray)[n].toNat:Int) == (c.toNat:Int))=true):isS c=true:=by
 have h:n < sg.length:=h'
 rw [yuo n h h'] at hz
 have e:sg[n]=c:=by apply UInt8.toNat_inj.1;have:=eq_of_beq hz;omega
 unfold isS
 rw [decide_eq_true_eq,← e]
 exact List.getElem_mem h
theorem ygK {c:UInt8} (HE:∀ j (h:j < sg.length),j < 9→sg[j]≠c):isS c=false:=by
 unfold isS
 rw [decide_eq_false_iff_not]
 intro h
 obtain ⟨j,hj,e⟩:=List.getElem_of_mem (show c ∈ sg from h)
 exact HE j hj hj e
theorem yp9 (s:ByteArray) (a:Nat) (w:World) (_hs:s.size≤2000) (ha:a < s.size) (hc:isL s[a]=false) (hd:isD s[a]=false) (hq:((s[a].toNat:Int) == 39)=false)
  (hp:((s[a].toNat:Int) == 124)=false) (hS:isS s[a]=true) :
  Calls Tryz.prog 58 #[.string s,.int .i64 (a:Int)] w fun e w'=>e=.returned (.tuple #[.int .i64 4,.int .i64 1])∧w'=w:=by
 have h1:=ycR hc
 have h2:=ycr hd
 have HS:=yae hS
 clear hc hd hS
 go_enter Tryz.func58,Tryz.ntmps58
 go_wp2_with (first|(go_at_call 113;refine (h1 _).mono ?_;rintro e w' ⟨rfl,hw'⟩;obtain rfl:=hw'.symm;clear hw')|(go_at_call 114;refine (h2 _).mono ?_;rintro e w' ⟨rfl,hw'⟩;obtain rfl:=hw'.symm;clear hw'))
 clear h1 h2
 go_loop [9] (fun i=>∃ n:Nat,n≤9∧i=.int .i64 n∧Hid (∀ j (h:j < sg.length),j < n→sg[j]≠s[a])) (fun i=>9 - (intOf i).toNat)
 case atStart=>exact ⟨0,by omega,rfl,fun j _ h=>by omega⟩
 case round =>
  obtain ⟨n,hn,rfl,HE⟩:=hrel
  by_cases hlt:n < 9
  ·go_wp2
   ·go_ret2
    exact ⟨rfl,rfl⟩
   ·go_round
    case rel=>exact ⟨n+1,by omega,by go_num,yae (ygL hlt HE.out ‹_›)⟩
    case measure=>simp [intOf];omega
  ·have hn9:n=9:=by omega
   have hm:=ygK (by have:=HE.out;rw [hn9] at this;exact this)
   clear hn9
   rw [HS.out] at hm;cases hm
theorem yp7 (s:ByteArray) (a:Nat) (w:World) (_hs:s.size≤2000) (ha:a < s.size) (hc:isL s[a]=false) (hd:isD s[a]=false) (hq:((s[a].toNat:Int) == 39)=false)
  (hp:((s[a].toNat:Int) == 124)=false) (hS:isS s[a]=false) :
  Calls Tryz.prog 58 #[.string s,.int .i64 (a:Int)] w fun e w'=>e=.returned (.tuple #[.int .i64 0,.int .i64 0])∧w'=w:=by
 have h1:=ycR hc
 have h2:=ycr hd
 have HS:=yae hS
 clear hc hd hS
 go_enter Tryz.func58,Tryz.ntmps58
 go_wp2_with (first|(go_at_call 113;refine (h1 _).mono ?_;rintro e w' ⟨rfl,hw'⟩;obtain rfl:=hw'.symm;clear hw')|(go_at_call 114;refine (h2 _).mono ?_;rintro e w' ⟨rfl,hw'⟩;obtain rfl:=hw'.symm;clear hw'))
 clear h1 h2
 go_loop [9] (fun i=>∃ n:Nat,n≤9∧i=.int .i64 n∧Hid (∀ j (h:j < sg.length),j < n→sg[j]≠s[a])) (fun i=>9 - (intOf i).toNat)
 case atStart=>exact ⟨0,by omega,rfl,fun j _ h=>by omega⟩
 case round =>
  obtain ⟨n,hn,rfl,HE⟩:=hrel
  by_cases hlt:n < 9
  ·go_wp2
   ·have hh:=ynl hlt ‹_›
    rw [HS.out] at hh;cases hh
   ·go_round
    case rel=>exact ⟨n+1,by omega,by go_num,yae (ygL hlt HE.out ‹_›)⟩
    case measure=>simp [intOf];omega
  ·have hn9:n=9:=by omega
   have hm:=ygK (by have:=HE.out;rw [hn9] at this;exact this)
   clear hn9
   clear hm
   go_wp2
   go_ret2
   exact ⟨rfl,rfl⟩
theorem yjA (s:ByteArray) (a:Nat) (w:World) (hs:s.size≤2000) (ha:a < s.size) (hc:isL s[a]=false) (hd:isD s[a]=false) (hq:((s[a].toNat:Int) == 39)=false)
  (hp:((s[a].toNat:Int) == 124)=true) (he:¬ a+1 < s.size) (hS:isS s[a]=false) :
  Calls Tryz.prog 58 #[.string s,.int .i64 (a:Int)] w fun e w'=>e=.returned (.tuple #[.int .i64 0,.int .i64 0])∧w'=w:=by
 have h1:=ycR hc
 have h2:=ycr hd
 have HS:=yae hS
 clear hc hd hS
 go_enter Tryz.func58,Tryz.ntmps58
 go_wp2_with (first|(go_at_call 113;refine (h1 _).mono ?_;rintro e w' ⟨rfl,hw'⟩;obtain rfl:=hw'.symm;clear hw')|(go_at_call 114;refine (h2 _).mono ?_;rintro e w' ⟨rfl,hw'⟩;obtain rfl:=hw'.symm;clear hw'))
 clear h1 h2
 go_loop [9] (fun i=>∃ n:Nat,n≤9∧i=.int .i64 n∧Hid (∀ j (h:j < sg.length),j < n→sg[j]≠s[a])) (fun i=>9 - (intOf i).toNat)
 case atStart=>exact ⟨0,by omega,rfl,fun j _ h=>by omega⟩
 case round =>
  obtain ⟨n,hn,rfl,HE⟩:=hrel
  by_cases hlt:n < 9
  ·go_wp2
   ·have hh:=ynl hlt ‹_›
    rw [HS.out] at hh;cases hh
   ·go_round
    case rel=>exact ⟨n+1,by omega,by go_num,yae (ygL hlt HE.out ‹_›)⟩
    case measure=>simp [intOf];omega
  ·have hn9:n=9:=by omega
   have hm:=ygK (by have:=HE.out;rw [hn9] at this;exact this)
   clear hn9
   clear hm
   go_wp2
   go_ret2
   exact ⟨rfl,rfl⟩
theorem yjB (s:ByteArray) (a:Nat) (w:World) (hs:s.size≤2000) (ha:a < s.size) (hc:isL s[a]=false) (hd:isD s[a]=false) (hq:((s[a].toNat:Int) == 39)=false)
  (hp:((s[a].toNat:Int) == 124)=true) (he:a+1 < s.size) (hp2:((s[a+1].toNat:Int) == 124)=false) (hS:isS s[a]=false) :
  Calls Tryz.prog 58 #[.string s,.int .i64 (a:Int)] w fun e w'=>e=.returned (.tuple #[.int .i64 0,.int .i64 0])∧w'=w:=by
 have h1:=ycR hc
 have h2:=ycr hd
 have HS:=yae hS
 clear hc hd hS
 go_enter Tryz.func58,Tryz.ntmps58
 go_wp2_with (first|(go_at_call 113;refine (h1 _).mono ?_;rintro e w' ⟨rfl,hw'⟩;obtain rfl:=hw'.symm;clear hw')|(go_at_call 114;refine (h2 _).mono ?_;rintro e w' ⟨rfl,hw'⟩;obtain rfl:=hw'.symm;clear hw'))
 clear h1 h2
 go_loop [9] (fun i=>∃ n:Nat,n≤9∧i=.int .i64 n∧Hid (∀ j (h:j < sg.length),j < n→sg[j]≠s[a])) (fun i=>9 - (intOf i).toNat)
 case atStart=>exact ⟨0,by omega,rfl,fun j _ h=>by omega⟩
 case round =>
  obtain ⟨n,hn,rfl,HE⟩:=hrel
  by_cases hlt:n < 9
  ·go_wp2
   ·have hh:=ynl hlt ‹_›
    rw [HS.out] at hh;cases hh
   ·go_round
    case rel=>exact ⟨n+1,by omega,by go_num,yae (ygL hlt HE.out ‹_›)⟩
    case measure=>simp [intOf];omega
  ·have hn9:n=9:=by omega
   have hm:=ygK (by have:=HE.out;rw [hn9] at this;exact this)
   clear hn9
   clear hm
   go_wp2
   go_ret2
   exact ⟨rfl,rfl⟩
def atV (s:ByteArray) (a:Nat):Value:=.tuple #[.int .i64 ((yba (s.data.toList.drop a)).1:Nat),.int .i64 ((yba (s.data.toList.drop a)).2:Nat)]
theorem yhL (s:ByteArray) (a:Nat) (w:World) (hs:s.size≤2000) (ha:a < s.size) :
  Calls Tryz.prog 58 #[.string s,.int .i64 (a:Int)] w fun e w'=>e=.returned (atV s a)∧w'=w:=by
 have hd:=ydl s a ha
 have get:∀ j,(h:j < s.size)→a+1≤j→(s.data.toList.drop (a+1))[j - (a+1)]?=some s[j]:=by
  intro j h hj
  rw [List.getElem?_drop,show a+1+(j - (a+1))=j by omega,List.getElem?_eq_getElem (by simpa using h)];rfl
 have val:∀ K N,yba (s.data.toList.drop a)=(K,N)→atV s a=.tuple #[.int .i64 (K:Nat),.int .i64 (N:Nat)]:=by
  intro K N h;unfold atV;rw [h]
 rw [hd] at val
 cases hL:isL s[a]
 case true =>
  rw [val 1 (ycN isW (s.data.toList.drop (a+1))+1) (by simp [yba,hL]),show ycN isW (s.data.toList.drop (a+1))+1=yav isW s (a+1) - a by unfold yav;omega]
  exact yp6 s a w hs ha hL
 case false =>
 cases hD:isD s[a]
 case true =>
  rw [val 2 (ycN isD (s.data.toList.drop (a+1))+1) (by simp [yba,hL,hD]),show ycN isD (s.data.toList.drop (a+1))+1=yav isD s (a+1) - a by unfold yav;omega]
  exact yle s a w hs ha hL hD
 case false =>
 cases hQ:((s[a].toNat:Int) == 39)
 case true =>
  have hq:s[a]=39:=by rw [yfH] at hQ;simpa using hQ
  have l39:isL 39=false:=by decide
  have d39:isD 39=false:=by decide
  have hsp:yav isQ s (a+1)=a+1+ycN isQ (s.data.toList.drop (a+1)):=rfl
  by_cases he:∃ h:yav isQ s (a+1) < s.size,((s[yav isQ s (a+1)].toNat:Int) == 39)=true
  ·obtain ⟨h1,h2⟩:=he
   have hg:=get _ h1 (ycV isQ s (a+1))
   rw [show yav isQ s (a+1) - (a+1)=ycN isQ (s.data.toList.drop (a+1)) by omega] at hg
   have hz:s[yav isQ s (a+1)]=39:=by rw [yfH] at h2;simpa using h2
   rw [val 3 (ycN isQ (s.data.toList.drop (a+1))+2) (by simp only [yba,l39,d39,hq,hg,hz];rfl),show ycN isQ (s.data.toList.drop (a+1))+2=yav isQ s (a+1) - a+1 by omega]
   exact yqa s a w hs ha hL hD hQ ⟨h1,h2⟩
  ·have hg:¬ (s.data.toList.drop (a+1))[ycN isQ (s.data.toList.drop (a+1))]?=some 39:=by
    intro hg
    have h1:yav isQ s (a+1) < s.size:=by
     rcases Nat.lt_or_ge (yav isQ s (a+1)) s.size with h|h
     ·exact h
     ·rw [List.getElem?_eq_none (by simp;omega)] at hg;cases hg
    have hg2:=get _ h1 (ycV isQ s (a+1))
    rw [show yav isQ s (a+1) - (a+1)=ycN isQ (s.data.toList.drop (a+1)) by omega,hg] at hg2
    exact he ⟨h1,by rw [yfH];simpa using (Option.some.inj hg2).symm⟩
   rw [val 0 0 (by simp only [yba,l39,d39,hq,hg,Bool.false_eq_true,if_false,if_true])]
   exact yp8 s a w hs ha hL hD hQ he
 case false =>
 have hq:¬ s[a]=39:=by rw [yfH] at hQ;simpa using hQ
 have hb:=ycZ s[a] (s.data.toList.drop (a+1))
 cases hP:((s[a].toNat:Int) == 124)
 case false =>
  have hp:¬ s[a]=124:=by rw [show (124:Int)=((124:UInt8).toNat:Int) from rfl,ypF] at hP;simpa using hP
  have hb0:ycY (s[a]::s.data.toList.drop (a+1))=false:=by rw [hb];simp [hp]
  cases hS:isS s[a]
  case true =>
   rw [val 4 1 (by simp [yba,hL,hD,hq,hb0,hS])]
   exact yp9 s a w hs ha hL hD hQ hP hS
  case false =>
   rw [val 0 0 (by simp [yba,hL,hD,hq,hb0,hS])]
   exact yp7 s a w hs ha hL hD hQ hP hS
 case true =>
  have hp:s[a]=124:=by rw [show (124:Int)=((124:UInt8).toNat:Int) from rfl,ypF] at hP;simpa using hP
  have hS:isS s[a]=false:=by rw [hp];decide
  by_cases he:a+1 < s.size
  ·have hh:(s.data.toList.drop (a+1)).head?=some s[a+1]:=by rw [ydl s (a+1) he];rfl
   cases hP2:((s[a+1].toNat:Int) == 124)
   case true =>
    have hp2:s[a+1]=124:=by rw [show (124:Int)=((124:UInt8).toNat:Int) from rfl,ypF] at hP2;simpa using hP2
    have hb0:ycY (s[a]::s.data.toList.drop (a+1))=true:=by rw [hb,hh];simp [hp,hp2]
    rw [val 4 2 (by simp [yba,hL,hD,hq,hb0])]
    exact yp5 s a w hs he hL hD hQ hP hP2
   case false =>
    have hp2:¬ s[a+1]=124:=by rw [show (124:Int)=((124:UInt8).toNat:Int) from rfl,ypF] at hP2;simpa using hP2
    have hb0:ycY (s[a]::s.data.toList.drop (a+1))=false:=by rw [hb,hh];simp [hp2]
    rw [val 0 0 (by simp [yba,hL,hD,hq,hb0,hS])]
    exact yjB s a w hs ha hL hD hQ hP he hP2 hS
  ·have hh:(s.data.toList.drop (a+1)).head?=none:=by rw [List.drop_eq_nil_of_le (by simp;omega)];rfl
   have hb0:ycY (s[a]::s.data.toList.drop (a+1))=false:=by rw [hb,hh];simp
   rw [val 0 0 (by simp [yba,hL,hD,hq,hb0,hS])]
   exact yjA s a w hs ha hL hD hQ hP he hS
theorem yrG (t:ByteArray) (w:World)  :
  Calls Tryz.prog 59 #[.int .i64 0,.string t] w fun e w'=>e=.returned (.int .i64 1)∧w'=w:=by
 go_enter Tryz.func59,Tryz.ntmps59
 go_wp2
 go_ret
 exact ⟨rfl,rfl⟩
theorem yhR (t:ByteArray) (w:World) (hl:12 < t.size) :
  Calls Tryz.prog 59 #[.int .i64 1,.string t] w fun e w'=>e=.returned (.int .i64 2)∧w'=w:=by
 go_enter Tryz.func59,Tryz.ntmps59
 go_wp2
 go_ret
 exact ⟨rfl,rfl⟩
theorem ykX (t:ByteArray) (w:World) (hl:t.size≤12) :
  Calls Tryz.prog 59 #[.int .i64 1,.string t] w fun e w'=>e=.returned (.int .i64 0)∧w'=w:=by
 go_enter Tryz.func59,Tryz.ntmps59
 go_wp2
 go_ret
 exact ⟨rfl,rfl⟩
theorem yhS (t:ByteArray) (w:World) (hl:9 < t.size) :
  Calls Tryz.prog 59 #[.int .i64 2,.string t] w fun e w'=>e=.returned (.int .i64 2)∧w'=w:=by
 go_enter Tryz.func59,Tryz.ntmps59
 go_wp2
 go_ret
 exact ⟨rfl,rfl⟩
theorem yi4 (t:ByteArray) (w:World) (hl:t.size≤1) :
  Calls Tryz.prog 59 #[.int .i64 2,.string t] w fun e w'=>e=.returned (.int .i64 0)∧w'=w:=by
 go_enter Tryz.func59,Tryz.ntmps59
 go_wp2
 go_ret
 exact ⟨rfl,rfl⟩
theorem yfZ (t:ByteArray) (w:World) (hl:t.size≤9) (h1:1 < t.size) (hz:((t[0].toNat:Int) == 48)=true) :
  Calls Tryz.prog 59 #[.int .i64 2,.string t] w fun e w'=>e=.returned (.int .i64 1)∧w'=w:=by
 go_enter Tryz.func59,Tryz.ntmps59
 go_wp2
 go_ret
 exact ⟨rfl,rfl⟩
theorem ykY (t:ByteArray) (w:World) (hl:t.size≤9) (h1:1 < t.size) (hz:((t[0].toNat:Int) == 48)=false) :
  Calls Tryz.prog 59 #[.int .i64 2,.string t] w fun e w'=>e=.returned (.int .i64 0)∧w'=w:=by
 go_enter Tryz.func59,Tryz.ntmps59
 go_wp2
 go_ret
 exact ⟨rfl,rfl⟩
theorem yhT (t:ByteArray) (w:World) (hl:22 < t.size) :
  Calls Tryz.prog 59 #[.int .i64 3,.string t] w fun e w'=>e=.returned (.int .i64 2)∧w'=w:=by
 go_enter Tryz.func59,Tryz.ntmps59
 go_wp2
 go_ret
 exact ⟨rfl,rfl⟩
theorem ykZ (t:ByteArray) (w:World) (hl:t.size≤22) :
  Calls Tryz.prog 59 #[.int .i64 3,.string t] w fun e w'=>e=.returned (.int .i64 0)∧w'=w:=by
 go_enter Tryz.func59,Tryz.ntmps59
 go_wp2
 go_ret
 exact ⟨rfl,rfl⟩
theorem yrH (t:ByteArray) (w:World)  :
  Calls Tryz.prog 59 #[.int .i64 4,.string t] w fun e w'=>e=.returned (.int .i64 0)∧w'=w:=by
 go_enter Tryz.func59,Tryz.ntmps59
 go_wp2
 go_ret
 exact ⟨rfl,rfl⟩
theorem yhU (k:Nat) (t:ByteArray) (w:World) (hk:k≤4) :
  Calls Tryz.prog 59 #[.int .i64 (k:Int),.string t] w fun e w'=>e=.returned (.int .i64 (yaD k t.data.toList:Nat))∧w'=w:=by
 match k,hk with
 | 0,_=>exact yrG t w
 | 1,_ =>
  by_cases h:12 < t.size
  ·rw [show yaD 1 t.data.toList=2 by simp [yaD,h]];exact yhR t w h
  ·rw [show yaD 1 t.data.toList=0 by simp [yaD];omega];exact ykX t w (by omega)
 | 2,_ =>
  by_cases h:9 < t.size
  ·rw [show yaD 2 t.data.toList=2 by simp [yaD,h]];exact yhS t w h
  ·by_cases h1:1 < t.size
   ·have hh:t.data.toList.head?=some t[0]:=by
     rw [List.head?_eq_getElem?,List.getElem?_eq_getElem (by simp;omega)];rfl
    cases hz:((t[0].toNat:Int) == 48)
    ·have hz':¬ t[0]=48:=by
      intro e;rw [e] at hz;revert hz;decide
     rw [show yaD 2 t.data.toList=0 by unfold yaD;rw [hh];simp [h,hz']];exact ykY t w (by omega) h1 hz
    ·have hz':t[0]=48:=by
      apply UInt8.toNat_inj.1;have:=eq_of_beq hz;simp;omega
     rw [show yaD 2 t.data.toList=1 by unfold yaD;rw [hh];simp [h,h1,hz']];exact yfZ t w (by omega) h1 hz
   ·rw [show yaD 2 t.data.toList=0 by simp [yaD,h,h1]];exact yi4 t w (by omega)
 | 3,_ =>
  by_cases h:22 < t.size
  ·rw [show yaD 3 t.data.toList=2 by simp [yaD,h]];exact yhT t w h
  ·rw [show yaD 3 t.data.toList=0 by simp [yaD,h]];exact ykZ t w (by omega)
 | 4,_=>rw [show yaD 4 t.data.toList=0 by simp [yaD]];exact yrH t w
theorem yiW (s:ByteArray) (w:World) (hs:2000 < s.size) (hm:s.size≤9223372036854775000) :
  Calls Tryz.prog 22 #[.string s] w fun e w'=>e=.returned (.tuple #[.slice none 0 0,.int .i64 0,.int .i64 2])∧w'=w:=by
 go_enter Tryz.func22,Tryz.ntmps22
 go_wp2
 go_ret3
 exact ⟨rfl,rfl⟩
theorem yhE (s:ByteArray) (w:World) (hs:s.size≤2000) :
  Calls Tryz.prog 22 #[.string s] w fun e w'=>∃ v,e=.returned (.tuple #[v,.int .i64 ((ya7 0 s.data.toList []).2.1:Nat),.int .i64 ((ya7 0 s.data.toList []).2.2:Nat)]) ∧
   w'.ownsRow w.heap.size 63 3 v (ya7 0 s.data.toList []).1.length (ybM (ya7 0 s.data.toList []).1)∧Below w.heap.size w w':=by
 obtain ⟨i0,hi,hz0,hz1,hz2⟩:=info_parts Tryz.info34
 have hbs:decide ((2000:Int) < (s.size:Int))=false:=by simp;omega
 go_enter Tryz.func22,Tryz.ntmps22
 go_wp2
 go_loopw [5,6] (fun v i wr=>∃ (k:Nat) (acc:List Tk),k≤s.size∧i=.int .i64 k∧wr.ownsRow w.heap.size 63 3 v acc.length (ybM acc)∧Below w.heap.size w wr∧acc.length≤k ∧
   Hid (ya7 k (s.data.toList.drop k) acc=ya7 0 s.data.toList [])) (fun _ i _=>s.size - (intOf i).toNat)
 case atStart =>
  exact ⟨0,[],Nat.zero_le _,rfl,World.ownsRow_nil _ _ _ _,Below.refl _ _,Nat.zero_le _,rfl⟩
 case round =>
  obtain ⟨k,acc,hk,rfl,hown,hnx,hacc,HE⟩:=hrel
  by_cases hlt:k < s.size
  ·have hsz:=hnx.size
   cases hB:isB s[k]
   case true =>
    have h1:ya7 k (s.data.toList.drop k) acc=ya7 (k+1) (s.data.toList.drop (k+1)) acc:=by rw [ydl s k hlt];exact ydq k _ _ acc hB
    have HG:Hid (ya7 (k+1) (s.data.toList.drop (k+1)) acc=ya7 0 s.data.toList []):=h1.symm.trans HE.out
    clear h1 HE
    rcases yhd hB with h|⟨h,h'⟩|⟨h,h',h''⟩
    all_goals
     clear hB
     go_wp2
     go_roundw
     case rel=>exact ⟨k+1,acc,by omega,by go_num,hown,hnx,by omega,HG⟩
     case measure=>simp [intOf];omega
   case false =>
   obtain ⟨K,N,hp⟩:∃ K N,yba (s.data.toList.drop k)=(K,N):=⟨_,_,rfl⟩
   have hk4:=(ydJ (s.data.toList.drop k)).1
   have hnl:=ygQ (s.data.toList.drop k)
   have ht:=yhL s k wr hs hlt
   obtain ⟨g0,g1⟩:=yhF s k acc K N hlt hp hB
   rw [HE.out] at g0 g1
   have hpos:K≠0→1≤N:=by
    have:=ydr s[k] (s.data.toList.drop (k+1))
    rw [← ydl s k hlt,hp] at this;exact this
   rw [atV,hp] at ht
   rw [hp] at hk4 hnl
   obtain ⟨n1,n2,n3⟩:=yq3 hB
   simp only [List.length_drop] at hnl hk4
   have hnl':N≤s.size - k:=by simpa using hnl
   clear hnl hp HE hB
   obtain ⟨T,hT⟩:∃ T,T=s.extract k (k+N):=⟨_,rfl⟩
   have hTs:T.size=N:=by rw [hT];simp;omega
   have hTl:T.data.toList=(s.data.toList.drop k).take N:=by rw [hT,Lib.extract_data];congr 1;omega
   rw [← hTl] at g0 g1
   have hw:=fun W=>yhU K T W hk4
   rw [hT] at hw
   obtain ⟨E,hE⟩:∃ E,yaD K T.data.toList=E:=⟨_,rfl⟩
   rw [← hT,hE] at hw
   rw [hE] at g0 g1
   rw [hT] at hw
   have HT:=yae hT
   have HS:=yae hTs
   have HE:=yae hE
   have HP:=yae hpos
   clear hE hT hTl hpos hTs
   by_cases hE0:E=0
   ·subst hE0
    have g0':=yae (g0 rfl)
    have hN1:1≤N:=HP.out (by intro e;subst e;have:=HE.out;simp [yaD] at this)
    clear g0 g1
    go_wp2_with (first|(go_at_call 58;refine ht.mono ?_;rintro e w' ⟨rfl,hw'⟩;obtain rfl:=hw'.symm;clear hw')|(go_at_call 59;refine (hw _).mono ?_;rintro e w' ⟨rfl,hw'⟩;obtain rfl:=hw'.symm;clear hw')|(at_builtin;refine wpList_append_own _ rfl _ _ 40 rfl w.heap.size 63 i0 (.agg #[.int .i64 0,.int .i64 0,.string ⟨#[]⟩]) 3 32 Tryz.underlying40 hi hz0 hz1 hz2 rfl (by decide) _ _ _ rfl (hown.alloc _) ⟨wr.heap.size,0,none⟩ 1 1 [.int .i64 (K:Nat),.int .i64 (k:Nat),.string (s.extract k (k+N))] rfl rfl ?c1 ?c2 ?c3 ?c4 ?c5 ?_))
    case c1 =>
     intro j u hj
     match j,hj with
     | 0,hj=>simp at hj;subst hj;simp [Addr.add]
     | 1,hj=>simp at hj;subst hj;simp [Addr.add]
     | 2,hj=>simp at hj;subst hj;simp [Addr.add]
    case c2=>intro u hu;simp at hu;rcases hu with rfl|rfl|rfl <;> rfl
    case c3=>unfold maxLen;omega
    case c4=>omega
    case c5=>simp;omega
    intro v' w3 hown' hgrow _
    have hB3:Below w.heap.size w w3:=((hnx.alloc hsz _).grown hgrow (by simp;omega) (fun j hj=>(hown.lt j hj).1))
    have R3:w3.ownsRow w.heap.size 63 3 v' (acc++[(⟨(K:Nat),(k:Nat),T.data.toList⟩:Tk)]).length (ybM (acc++[⟨(K:Nat),(k:Nat),T.data.toList⟩])):=by
     rw [yfc,List.length_append]
     have:=hown'
     rw [← HT.out] at this
     exact this
    clear hown' hgrow hown hw ht
    go_wp2
    go_roundw
    case rel=>exact ⟨k+N,_,by omega,by go_num,R3,hB3,by simp;omega,yae g0'.out.symm⟩
    case measure=>simp [intOf];omega
   ·have hEb:((E:Int) != 0)=true:=by simp;omega
    have HG:Hid (ya7 0 s.data.toList []=([],k,E)):=g1 hE0
    clear g0 g1 hE0
    go_wp2_with (first|(go_at_call 58;refine ht.mono ?_;rintro e w' ⟨rfl,hw'⟩;obtain rfl:=hw'.symm;clear hw')|(go_at_call 59;refine (hw _).mono ?_;rintro e w' ⟨rfl,hw'⟩;obtain rfl:=hw'.symm;clear hw'))
    go_ret3
    exact ⟨.slice none 0 0,by rw [HG.out];rfl,by rw [HG.out];exact World.ownsRow_nil _ _ _ _,hnx⟩
  ·have hd:s.data.toList.drop k=[]:=List.drop_eq_nil_of_le (by simp;omega)
   have HG:Hid (ya7 0 s.data.toList []=(acc,0,0)):=by rw [← HE.out,hd];rfl
   clear hd HE
   go_wp2
   go_ret3
   exact ⟨_,by rw [HG.out];rfl,by rw [HG.out];exact hown,hnx⟩
theorem ykH (s:ByteArray) (w:World) (hm:s.size≤9223372036854775000) :
  Calls Tryz.prog 22 #[.string s] w fun e w'=>∃ v,e=.returned (.tuple #[v,.int .i64 ((yaH s.data.toList).2.1:Nat),.int .i64 ((yaH s.data.toList).2.2:Nat)]) ∧
   w'.ownsRow w.heap.size 63 3 v (yaH s.data.toList).1.length (ybM (yaH s.data.toList).1)∧Below w.heap.size w w':=by
 have hl:s.data.toList.length=s.size:=by simp
 by_cases h:2000 < s.size
 ·refine (yiW s w h hm).mono ?_
  rintro e w' ⟨rfl,rfl⟩
  have:yaH s.data.toList=([],0,2):=by unfold yaH;rw [if_pos (by omega)]
  rw [this]
  exact ⟨_,rfl,World.ownsRow_nil _ _ _ _,Below.refl _ _⟩
 ·have:yaH s.data.toList=ya7 0 s.data.toList []:=by unfold yaH;rw [if_neg (by omega)]
  rw [this]
  exact yhE s w (by omega)
theorem yil (K:Int) (t:ByteArray) (w:World) (h:t.toList.isEmpty=true) :
  Calls Tryz.prog 83 #[.int .i64 K,.string t] w fun e w'=>e=.returned (.bool false)∧w'=w:=by
 go_enter Tryz.func83,Tryz.ntmps83
 go_wp2
 go_ret
 exact ⟨rfl,rfl⟩
theorem ykj (K:Int) (t:ByteArray) (w:World) (h:t.toList.isEmpty=false) (hl:2000 < t.size) (hm:t.size≤9223372036854775000) :
  Calls Tryz.prog 83 #[.int .i64 K,.string t] w fun e w'=>e=.returned (.bool false)∧w'=w:=by
 go_enter Tryz.func83,Tryz.ntmps83
 go_wp2
 go_ret
 exact ⟨rfl,rfl⟩
theorem yim (K:Int) (t:ByteArray) (w:World) (h:t.toList.isEmpty=false) (hl:t.size≤2000) (hk:(K == 0)=true) :
  Calls Tryz.prog 83 #[.int .i64 K,.string t] w fun e w'=>e=.returned (.bool false)∧w'=w:=by
 go_enter Tryz.func83,Tryz.ntmps83
 go_wp2
 go_ret
 exact ⟨rfl,rfl⟩
theorem yoQ (K:Int) (t:ByteArray) (w:World) (h:t.toList.isEmpty=false) (h1:0 < t.size) (hl:t.size≤2000) (hk:(K == 0)=false) (k N E:Nat) (hp:yba t.data.toList=(k,N)) (hk4:k≤4) (hE:yaD k t.data.toList=E) :
  Calls Tryz.prog 83 #[.int .i64 K,.string t] w fun e w'=>e=.returned (.bool (((k:Int) == K)&&((N:Int) == (t.size:Int))&&((E:Int) == 0)))∧w'=w:=by
 have ht:=yhL t 0 w hl h1
 rw [atV,List.drop_zero,hp] at ht
 have hw:=yhU k t w hk4
 rw [hE] at hw
 clear hp hE
 cases b1:((k:Int) == K) <;> cases b2:((N:Int) == (t.size:Int)) <;> cases b3:((E:Int) == 0)
 all_goals
  go_enter Tryz.func83,Tryz.ntmps83
  go_wp2_with (first|(go_at_call 58;refine ht.mono ?_;rintro e w' ⟨rfl,hw'⟩;obtain rfl:=hw'.symm;clear hw')|(go_at_call 59;refine hw.mono ?_;rintro e w' ⟨rfl,hw'⟩;obtain rfl:=hw'.symm;clear hw'))
  go_ret
  exact ⟨rfl,rfl⟩
structure Rd (w:World) (base rb:Nat) (v:Value) (T:List Tk) (en:Int) (s:Sx) (cs:List Value):Prop where
 blk:w.heap[rb]?=some (.cells (v::.int .i64 ((s.1:Nat):Int)::.int .i64 en::.bool s.2::cs).toArray 50)
 own:w.ownsRow base 63 3 v T.length (ybM T)
 lt:∀ g,v.ownBlock=some g→g < rb
 le:s.1≤T.length
 few:T.length≤2000
 toks:∀ x ∈ T,TokOk x
 ist:∀ x ∈ T,TokIs x
theorem rd4 {W:World} {rb:Nat} {v:Value} {i en:Int} {F:Bool} {cs:List Value} (h:W.heap[rb]?=some (.cells (v::.int .i64 i::.int .i64 en::.bool F::cs).toArray 50)) :
  (W.cell? ⟨rb,0,none⟩=some v∧W.cell? ⟨rb,1,none⟩=some (.int .i64 i)∧W.cell? ⟨rb,2,none⟩=some (.int .i64 en)∧W.cell? ⟨rb,3,none⟩=some (.bool F))∧(W.frozen? ⟨rb,1,none⟩=false∧W.frozen? ⟨rb,3,none⟩=false):=by
 refine ⟨⟨?_, ?_, ?_, ?_⟩,Lib.frozen_of_heap h 1,Lib.frozen_of_heap h 3⟩
 all_goals (rw [Lib.cell_of_heap h];simp)
theorem Rd.rb_lt {w:World} {base rb:Nat} {v:Value} {T:List Tk} {en:Int} {s:Sx} {cs:List Value} (h:Rd w base rb v T en s cs):rb < w.heap.size:=(ltS h.blk)
theorem Rd.ne {w:World} {base rb:Nat} {v:Value} {T:List Tk} {en:Int} {s:Sx} {cs:List Value} (h:Rd w base rb v T en s cs):v.ownBlock≠some rb:=fun e=>absurd (h.lt rb e) (Nat.lt_irrefl _)
theorem Rd.below {w w':World} {base rb:Nat} {v:Value} {T:List Tk} {en:Int} {s:Sx} {cs:List Value} (h:Rd w base rb v T en s cs) (hb:Below w.heap.size w w'):Rd w' base rb v T en s cs :=
 ⟨(hb.block rb h.rb_lt).trans h.blk,ycz h.own hb,h.lt,h.le,h.few,h.toks,h.ist⟩
theorem yut (w:World) (rb:Nat) (c3:w.cell? ⟨rb,3,none⟩=some (.bool true)) :
  Calls Tryz.prog 115 #[.pointer (some ⟨rb,0,none⟩)] w fun e w'=>e=.returned (.string ⟨#[]⟩)∧Below w.heap.size w w':=by
 go_enter Tryz.func115,Tryz.ntmps115
 go_wp2
 go_quiet (fail)
 go_wp2
 go_ret
 exact ⟨rfl,below_drewN (Below.refl _ _) _⟩
theorem yus (w:World) (rb n cap:Nat) (ao:Option Addr) (c0:w.cell? ⟨rb,0,none⟩=some (.slice ao n cap)) (c1:w.cell? ⟨rb,1,none⟩=some (.int .i64 (n:Int))) (c3:w.cell? ⟨rb,3,none⟩=some (.bool false)) :
  Calls Tryz.prog 115 #[.pointer (some ⟨rb,0,none⟩)] w fun e w'=>e=.returned (.string ⟨#[]⟩)∧Below w.heap.size w w':=by
 go_enter Tryz.func115,Tryz.ntmps115
 go_wp2
 go_quiet (fail)
 go_wp2
 go_ret
 exact ⟨rfl,below_drewN (Below.refl _ _) _⟩
theorem yuu (w:World) (rb n cap g i:Nat) (t:ByteArray) (c0:w.cell? ⟨rb,0,none⟩=some (.slice (some ⟨g,0,none⟩) n cap)) (c1:w.cell? ⟨rb,1,none⟩=some (.int .i64 (i:Int))) (c3:w.cell? ⟨rb,3,none⟩=some (.bool false))
  (hi:(i:Int) < (n:Int)) (e2:w.cell? ⟨g,i*3+2,none⟩=some (.string t)) :
  Calls Tryz.prog 115 #[.pointer (some ⟨rb,0,none⟩)] w fun e w'=>e=.returned (.string t)∧Below w.heap.size w w':=by
 have hge:¬ ((n:Int)≤(i:Int)):=by omega
 go_enter Tryz.func115,Tryz.ntmps115
 go_wp2
 go_quiet (fail)
 go_wp2
 go_quiet (fail)
 go_wp2
 go_ret
 exact ⟨rfl,below_drewN (below_drewN (Below.refl _ _) _) _⟩
theorem ybn {w:World} {base rb:Nat} {v:Value} {T:List Tk} {en:Int} {s:Sx} {cs:List Value} (h:Rd w base rb v T en s cs) :
  Calls Tryz.prog 115 #[.pointer (some ⟨rb,0,none⟩)] w fun e w'=>e=.returned (.string ⟨(txS T s).toArray⟩)∧Below w.heap.size w w':=by
 obtain ⟨i,F⟩:=s
 obtain ⟨⟨c0,c1,c2,c3⟩,-⟩:=rd4 h.blk
 cases F with
 | true=>exact yut w rb c3
 | false =>
  have e0:txS T (i,false)=tx T i:=by simp [txS]
  rw [e0]
  by_cases hi:i=T.length
  ·obtain ⟨ao,cap,hv⟩:=ybV h.own
   subst hi
   rw [hv] at c0
   have e3:tx T T.length=[]:=by simp [tx]
   rw [e3]
   exact yus w rb T.length cap ao c0 c1 c3
  ·have hlt:i < T.length:=by have:=h.le;simp only at this;omega
   obtain ⟨g,cap,hv,hg1,hg2⟩:=yen h.own (by omega)
   have ho:=h.own
   rw [hv] at c0 ho
   have hx:T[i]?=some T[i]:=List.getElem?_eq_getElem hlt
   obtain ⟨a0,a1,a2⟩:=ygZ T i _ hx
   have e3:tx T i=T[i].t:=by simp [tx,hx]
   rw [e3]
   exact yuu w rb T.length cap g i _ c0 c1 c3 (by omega) (ydR ho _ _ a2)
theorem Rd.step {w:World} {base rb:Nat} {v:Value} {T:List Tk} {en:Int} {i:Nat} {F:Bool} {cs:List Value} (h:Rd w base rb v T en (i,F) cs) (j:Nat) (hj:j≤T.length) :
  Rd (w.setCell ⟨rb,1,none⟩ (.int .i64 (j:Int))) base rb v T en (j,F) cs:=by
 refine ⟨?_,h.own.kept (yaw w rb 1 _) (.inr h.ne),h.lt,hj,h.few,h.toks,h.ist⟩
 have:=heap_setCell_same _ rb 1 _ 50 (.int .i64 (j:Int)) h.blk
 simpa using this
theorem Rd.fail {w:World} {base rb:Nat} {v:Value} {T:List Tk} {en:Int} {i:Nat} {F:Bool} {cs:List Value} (h:Rd w base rb v T en (i,F) cs) :
  Rd (w.setCell ⟨rb,3,none⟩ (.bool true)) base rb v T en (i,true) cs:=by
 refine ⟨?_,h.own.kept (yaw w rb 3 _) (.inr h.ne),h.lt,h.le,h.few,h.toks,h.ist⟩
 have:=heap_setCell_same _ rb 3 _ 50 (.bool true) h.blk
 simpa using this
theorem yny {T:List Tk} {i:Nat} (h:tx T i≠[]):i+1≤T.length:=by
 apply Classical.byContradiction
 intro hn
 exact h (by unfold tx;rw [List.getElem?_eq_none (by omega)])
theorem ye9 {w:World} {base rb:Nat} {v:Value} {T:List Tk} {en:Int} {s:Sx} {cs:List Value} (h:Rd w base rb v T en s cs) (W:List UInt8) (hW:W≠[]) :
  Calls Tryz.prog 60 #[.pointer (some ⟨rb,0,none⟩),.string ⟨W.toArray⟩] w fun e w'=>e=.returned (.bool (ybG T W s).1)∧Rd w' base rb v T en (ybG T W s).2 cs∧w.grownBy w' (some rb):=by
 obtain ⟨i,F⟩:=s
 have ht:=ybn h
 have H:=yae h
 obtain ⟨⟨c0,c1,c2,c3⟩,f1,f3⟩:=rd4 h.blk
 have hlt:=h.rb_lt
 have hle:=h.le
 have hfew:=h.few
 cases F with
 | true =>
  have e0:ybG T W (i,true)=(false,(i,true)):=by simp [ybG]
  rw [e0]
  clear h ht
  go_enter Tryz.func60,Tryz.ntmps60
  go_wp2
  go_ret
  exact ⟨rfl,H.out,ybe _ _⟩
 | false =>
  have e1:txS T (i,false)=tx T i:=by simp [txS]
  rw [e1] at ht
  by_cases he:tx T i=W
  ·have e0:ybG T W (i,false)=(true,(i+1,false)):=by simp [ybG,he]
   have hm:=yny (T:=T) (i:=i) (by rw [he];exact hW)
   rw [e0]
   rw [he] at ht
   have HM:=yae hm
   clear h he hm
   go_enter Tryz.func60,Tryz.ntmps60
   go_wp2_with (go_at_call 115;refine ht.mono ?_;rintro e w1 ⟨rfl,b1⟩;have d1:=(b1.cell (p:=⟨rb,1,none⟩) hlt).trans c1;have R1:=yae (H.out.below b1);have g1:=(rd4 R1.out.blk).2.1)
   go_ret
   have R2:=R1.out.step (i+1) HM.out
   have e2:(((i+1:Nat):Nat):Int)=(i:Int)+1:=by omega
   rw [e2] at R2
   exact ⟨rfl,R2,yaa (yad b1 _) (yaw _ rb 1 _)⟩
  ·have e0:ybG T W (i,false)=(false,(i,false)):=by simp [ybG,he]
   rw [e0]
   have hne:(tx T i == W)=false:=by simpa using he
   clear h he
   go_enter Tryz.func60,Tryz.ntmps60
   go_wp2_with (go_at_call 115;refine ht.mono ?_;rintro e w1 ⟨rfl,b1⟩)
   go_ret
   exact ⟨rfl,H.out.below b1,yad b1 _⟩
theorem yej {w:World} {base rb:Nat} {v:Value} {T:List Tk} {en:Int} {s:Sx} {cs:List Value} (h:Rd w base rb v T en s cs) (W:List UInt8) (hW:W≠[]) :
  Calls Tryz.prog 62 #[.pointer (some ⟨rb,0,none⟩),.string ⟨W.toArray⟩] w fun e w'=>e=.returned (.tuple #[])∧Rd w' base rb v T en (yc4 T W s).2 cs∧w.grownBy w' (some rb):=by
 obtain ⟨i,F⟩:=s
 have ht:=ye9 h W hW
 have e0:(yc4 T W (i,F)).2=if (ybG T W (i,F)).1=true then (ybG T W (i,F)).2 else (i,true):=by unfold yc4;split <;> rfl
 rw [e0]
 have e1:(ybG T W (i,F)).1=false→(ybG T W (i,F)).2=(i,F):=by
  unfold ybG;split
  ·intro h;cases h
  ·intro _;rfl
 generalize ybG T W (i,F)=p at ht e1
 obtain ⟨b,s2⟩:=p
 cases b with
 | true =>
  clear h e1
  go_enter Tryz.func62,Tryz.ntmps62
  go_wp2_with (go_at_call 60;refine ht.mono ?_;rintro e w1 ⟨rfl,R1,g1⟩)
  go_end0
  exact ⟨rfl,by simpa using R1,g1⟩
 | false =>
  have e2:=e1 rfl
  simp only at e2
  subst e2
  clear h e1
  go_enter Tryz.func62,Tryz.ntmps62
  go_wp2_with (go_at_call 60;refine ht.mono ?_;rintro e w1 ⟨rfl,R1,g1⟩;obtain ⟨⟨c0,c1,c2,c3⟩,f1,f3⟩:=rd4 R1.blk)
  go_end0
  exact ⟨rfl,by simpa using R1.fail,yaa g1 (yaw _ rb 3 _)⟩
theorem yl4 (K:Int) (t:ByteArray) (w:World) (hm:t.size≤9223372036854775000) :
  Calls Tryz.prog 83 #[.int .i64 K,.string t] w fun e w'=>e=.returned (.bool (ybk K t.data.toList))∧w'=w:=by
 rw [ydC]
 have hl:t.data.toList.length=t.size:=by simp
 have hem:t.toList.isEmpty=decide (t.data.toList=[]):=by rw [Lib.toList_data];cases t.data.toList <;> simp
 by_cases h0:t.data.toList=[]
 ·rw [show ybv K t.data.toList=false by simp [ybv,h0]]
  exact yil K t w (by rw [hem];simp [h0])
 have he:t.toList.isEmpty=false:=by rw [hem];simp [h0]
 by_cases h1:2000 < t.size
 ·rw [show ybv K t.data.toList=false by simp only [ybv,decide_eq_false_iff_not];omega]
  exact ykj K t w he h1 hm
 have hpos:0 < t.size:=by rw [← hl];exact List.length_pos_iff.2 h0
 obtain ⟨k,N,hp⟩:∃ k N,yba t.data.toList=(k,N):=⟨_,_,rfl⟩
 have hk4:=(ydJ t.data.toList).1
 rw [hp] at hk4
 cases hk:(K == 0)
 ·have e:ybv K t.data.toList=(((k:Int) == K)&&((N:Int) == (t.size:Int))&&(((yaD k t.data.toList:Nat):Int) == 0)):=by
   rw [Bool.eq_iff_iff]
   simp only [ybv,hp,decide_eq_true_eq,Bool.and_eq_true,beq_iff_eq]
   constructor
   ·rintro ⟨_,_,a,b,c⟩;exact ⟨⟨a,by omega⟩,by omega⟩
   ·rintro ⟨⟨a,b⟩,c⟩;exact ⟨h0,by omega,a,by omega,by omega⟩
  rw [e]
  exact yoQ K t w he hpos (by omega) hk k N _ hp hk4 rfl
 ·have hk0:K=0:=eq_of_beq hk
  rw [show ybv K t.data.toList=false by
   simp only [ybv,hp,decide_eq_false_iff_not]
   rintro ⟨_,_,a,_,c⟩
   have:k=0:=by omega
   subst this;simp [yaD] at c]
  exact yim K t w he (by omega) hk
theorem ykk (s:ByteArray) (w:World):Calls Tryz.prog 84 #[.string s] w fun e w'=>e=.returned (.bool (takenL.contains s.data.toList))∧Below w.heap.size w w':=by
 go_enter Tryz.func84,Tryz.ntmps84
 go_wp2
 go_loopw [4] (fun i wl=>∃ k:Nat,k≤36∧i=.int .i64 k∧Below w.heap.size w wl∧Hid (∀ j x,takenL[j]?=some x→wl.cell? ⟨w.heap.size,j,none⟩=some (.string ⟨x.toArray⟩))∧Hid (∀ j,j < k→takenL[j]?≠some s.data.toList)) (fun i _=>36 - (intOf i).toNat)
 case atStart =>
  refine ⟨0,by decide,rfl,(Below.refl _ _).alloc (Nat.le_refl _) _,fun j x hx=>?_,fun j hj=>absurd hj (Nat.not_lt_zero _)⟩
  have h1:=Lib.cell_of_heap (heap_alloc_new w (.cells (takenL.map fun x=>Value.string ⟨x.toArray⟩).toArray 9)) j
  refine h1.trans ?_
  simp [hx]
 case round =>
  obtain ⟨k,hk,rfl,hnx,HC,HA⟩:=hrel
  by_cases hlt:k < 36
  ·obtain ⟨x,hx⟩:∃ x,takenL[k]?=some x:=⟨takenL[k]'(by simpa [takenL] using hlt),List.getElem?_eq_getElem _⟩
   have c0:=HC.out k x hx
   have HX:=yae hx
   have hlt':(k:Int) < 36:=by omega
   by_cases he:x=s.data.toList
   ·have e1:s=⟨x.toArray⟩:=by rw [he]
    have HE:=yae he
    clear he hx
    subst e1
    go_wp2
    go_ret
    refine ⟨yaF ?_,hnx⟩
    have:x ∈ takenL:=List.mem_of_getElem? HX.out
    simp [this]
   ·have e1:(x == s.toList)=false:=by rw [Lib.toList_data];simpa using he
    have HE:=yae he
    clear he hx
    go_wp2
    go_roundw
    case rel =>
     refine ⟨k+1,by omega,by go_num,hnx,HC,fun j hj=>?_⟩
     rcases Nat.lt_or_ge j k with hjk|hjk
     ·exact HA.out j hjk
     ·rw [show j=k by omega,HX.out]
      intro e;cases e;exact HE.out rfl
    case measure=>simp [intOf];omega
  ·have hk36:¬ (k:Int) < 36:=by omega
   go_wp2
   go_ret
   refine ⟨yaF ?_,hnx⟩
   symm
   rw [Bool.eq_false_iff]
   intro h
   have hm:s.data.toList ∈ takenL:=by simpa using h
   obtain ⟨j,hj⟩:=List.getElem?_of_mem hm
   have:=(List.getElem?_eq_some_iff.1 hj).1
   exact HA.out j (by simp [takenL] at this;omega) hj
theorem yeq (s:ByteArray) (w:World) (hm:s.size≤9223372036854775000):Calls Tryz.prog 34 #[.string s] w fun e w'=>e=.returned (.bool (yap s.data.toList))∧Below w.heap.size w w':=by
 have h1:=yl4 1 s w hm
 have h2:=ykk s w
 unfold yap
 generalize ybk 1 s.data.toList=a at *
 generalize takenL.contains s.data.toList=b at *
 cases a with
 | false =>
  go_enter Tryz.func34,Tryz.ntmps34
  go_wp2_with (first|(go_at_call 83;refine h1.mono ?_;rintro e w' ⟨rfl,hw'⟩;obtain rfl:=hw'.symm;clear hw'))
  go_ret
  exact ⟨rfl,Below.refl _ _⟩
 | true =>
  go_enter Tryz.func34,Tryz.ntmps34
  go_wp2_with (first|(go_at_call 83;refine h1.mono ?_;rintro e w' ⟨rfl,hw'⟩;obtain rfl:=hw'.symm;clear hw')|(go_at_call 84;refine h2.mono ?_;rintro e w2 ⟨rfl,b2⟩))
  go_ret
  exact ⟨yaF (by simp),b2⟩
theorem yb4 {n a b:Int} {r:Bool} (h:(decide (a≤n)&&decide (n≤b))=r) (w:World) :
  Calls Tryz.prog 31 #[.int .i64 n,.int .i64 a,.int .i64 b] w fun e w'=>e=.returned (.bool r)∧w'=w:=by
 rw [← h];exact yce n a b w
theorem ypl (n:Int) (w:World):Calls Tryz.prog 81 #[.int .i64 n] w fun e w'=>e=.returned (.bool (yfU n))∧w'=w:=by
 go_enter Tryz.func81,Tryz.ntmps81
 go_wp2_with (go_at_call 31;refine (yce _ _ _ _).mono ?_;rintro e w' ⟨rfl,rfl⟩)
 go_ret
 exact ⟨yaF (by rfl),rfl⟩
theorem ypM (s:ByteArray):s.data.toList.all isQ=true↔∀ j (h:j < s.size),isQ s[j]=true:=by
 rw [List.all_eq_true]
 constructor
 ·intro h j hj
  exact h _ (by
   have:s[j]=s.data[j]:=rfl
   rw [this]
   exact Array.mem_toList_iff.2 (Array.getElem_mem _))
 ·intro h c hc
  obtain ⟨j,hj,rfl⟩:=List.getElem_of_mem hc
  have hj':j < s.size:=by
   have:s.data.toList.length=s.size:=Array.length_toList
   omega
  have:=h j hj'
  rw [Array.getElem_toList]
  exact this
theorem yqq (K N:Int) (s:ByteArray) (w:World) (hK:(decide (0≤K)&&decide (K≤3))=false) :
  Calls Tryz.prog 33 #[.agg #[.int .i64 K,.int .i64 N,.string s]] w fun e w'=>e=.returned (.int .i64 7)∧Below w.heap.size w w':=by
 have hb:=yb4 hK
 clear hK
 go_enter Tryz.func33,Tryz.ntmps33
 go_wp2_with (go_at_call 31;refine (hb _).mono ?_;rintro e w' ⟨rfl,hw'⟩;obtain rfl:=hw'.symm;clear hw')
 go_ret
 exact ⟨rfl,(Below.refl _ _).alloc (Nat.le_refl _) _⟩
def yrW (b:Bool):Int:=if b=true then 0 else 3
theorem ytB (N:Int) (s:ByteArray) (w:World) (b d:Bool) (hN:(N == 0)=b) (hS:s.toList.isEmpty=d) :
  Calls Tryz.prog 33 #[.agg #[.int .i64 0,.int .i64 N,.string s]] w fun e w'=>e=.returned (.int .i64 (yrW (b&&d)))∧Below w.heap.size w w':=by
 have hb:=yb4 (n:=0) (a:=0) (b:=3) (r:=true) (by decide)
 cases b <;> cases d
 all_goals
  go_enter Tryz.func33,Tryz.ntmps33
  go_wp2_with (go_at_call 31;refine (hb _).mono ?_;rintro e w' ⟨rfl,hw'⟩;obtain rfl:=hw'.symm;clear hw')
  go_ret
  exact ⟨rfl,(Below.refl _ _).alloc (Nat.le_refl _) _⟩
theorem ytC (N:Int) (s:ByteArray) (w:World) (b d:Bool) (hN:yfU N=b) (hS:s.toList.isEmpty=d) :
  Calls Tryz.prog 33 #[.agg #[.int .i64 1,.int .i64 N,.string s]] w fun e w'=>e=.returned (.int .i64 (yrW (b&&d)))∧Below w.heap.size w w':=by
 have hb:=yb4 (n:=1) (a:=0) (b:=3) (r:=true) (by decide)
 have hi:=fun W=>ypl N W
 rw [hN] at hi
 clear hN
 cases b <;> cases d
 all_goals
  go_enter Tryz.func33,Tryz.ntmps33
  go_wp2_with (first|(go_at_call 31;refine (hb _).mono ?_;rintro e w' ⟨rfl,hw'⟩;obtain rfl:=hw'.symm;clear hw')|(go_at_call 81;refine (hi _).mono ?_;rintro e w' ⟨rfl,hw'⟩;obtain rfl:=hw'.symm;clear hw'))
  go_ret
  exact ⟨rfl,(Below.refl _ _).alloc (Nat.le_refl _) _⟩
theorem ytD (N:Int) (s:ByteArray) (w:World) (b d:Bool) (hN:(decide (0≤N)&&decide (N≤1))=b) (hS:s.toList.isEmpty=d) :
  Calls Tryz.prog 33 #[.agg #[.int .i64 3,.int .i64 N,.string s]] w fun e w'=>e=.returned (.int .i64 (yrW (b&&d)))∧Below w.heap.size w w':=by
 have hb:=yb4 (n:=3) (a:=0) (b:=3) (r:=true) (by decide)
 have hi:=yb4 hN
 clear hN
 cases b <;> cases d
 all_goals
  go_enter Tryz.func33,Tryz.ntmps33
  go_wp2_with fail
  refine (hb _).mono ?_
  rintro e w' ⟨rfl,hw'⟩
  obtain rfl:=hw'.symm
  clear hw' hb
  go_wp2_with fail
  refine (hi _).mono ?_
  rintro e w' ⟨rfl,hw'⟩
  obtain rfl:=hw'.symm
  clear hw' hi
  go_wp2
  go_ret
  exact ⟨rfl,(Below.refl _ _).alloc (Nat.le_refl _) _⟩
theorem ypO (N:Int) (s:ByteArray) (w:World) (h:(N == 0)=false∨((N == 0)=true∧20 < s.size)) (hs:s.size≤140737488355328) :
  Calls Tryz.prog 33 #[.agg #[.int .i64 2,.int .i64 N,.string s]] w fun e w'=>e=.returned (.int .i64 3)∧Below w.heap.size w w':=by
 have hb:=yb4 (n:=2) (a:=0) (b:=3) (r:=true) (by decide)
 rcases h with h|⟨h,h'⟩
 all_goals
  go_enter Tryz.func33,Tryz.ntmps33
  go_wp2_with (go_at_call 31;refine (hb _).mono ?_;rintro e w' ⟨rfl,hw'⟩;obtain rfl:=hw'.symm;clear hw')
  clear hb
  go_loop [3,4] (fun o i=>o=.bool false∧i=.int .i64 0) (fun _ _=>0)
  case atStart=>exact ⟨by first|rfl|(rw [decide_eq_false (by omega)]),rfl⟩
  case round =>
   obtain ⟨rfl,rfl⟩:=hrel
   go_wp2
   all_goals go_ret
   all_goals exact ⟨rfl,(Below.refl _ _).alloc (Nat.le_refl _) _⟩
theorem yrQ (s:ByteArray) (w:World) (hz:s.size≤20) (r:Bool) (Hr:Hid (s.data.toList.all isQ=r)) :
  Calls Tryz.prog 33 #[.agg #[.int .i64 2,.int .i64 0,.string s]] w fun e w'=>e=.returned (.int .i64 (yrW r))∧Below w.heap.size w w':=by
 have hb:=yb4 (n:=2) (a:=0) (b:=3) (r:=true) (by decide)
 go_enter Tryz.func33,Tryz.ntmps33
 go_wp2_with (go_at_call 31;refine (hb _).mono ?_;rintro e w' ⟨rfl,hw'⟩;obtain rfl:=hw'.symm;clear hw')
 clear hb
 go_loop [3,4] (fun o i=>∃ (n:Nat) (b:Bool),n≤s.size∧i=.int .i64 n∧o=.bool b∧Hid ((b=true→∀ j (h:j < s.size),j < n→isQ s[j]=true)∧(b=false→∃ j,∃ h:j < s.size,isQ s[j]=false))) (fun _ i=>s.size - (intOf i).toNat)
 case atStart=>exact ⟨0,true,by omega,rfl,by rw [decide_eq_true (by omega)],⟨fun _ j _ h=>absurd h (by omega),fun h=>by cases h⟩⟩
 case round =>
  obtain ⟨n,b,hn,rfl,rfl,HE⟩:=hrel
  cases b with
  | false =>
   have HF:Hid (s.data.toList.all isQ=false):=by
    obtain ⟨j,hj,hq⟩:=HE.out.2 rfl
    rw [Hid,Bool.eq_false_iff]
    intro h
    have:=(ypM s).1 h j hj
    rw [hq] at this
    cases this
   clear HE
   go_wp2
   all_goals go_ret
   all_goals exact ⟨by rw [show r=false from Hr.out.symm.trans HF.out];rfl,(Below.refl _ _).alloc (Nat.le_refl _) _⟩
  | true =>
   by_cases hlt:n < s.size
   ·have hq:=fun W=>yjp s[n] W
    have HG:Hid ((isQ s[n]=true→∀ j (h:j < s.size),j < n+1→isQ s[j]=true)∧(isQ s[n]=false→∃ j,∃ h:j < s.size,isQ s[j]=false)):=by
     refine ⟨fun h j hj hj'=>?_,fun h=>⟨n,hlt,h⟩⟩
     by_cases e:j=n
     ·subst e;exact h
     ·exact HE.out.1 rfl j hj (by omega)
    generalize isQ s[n]=q at hq HG
    clear HE
    go_wp2_with (go_at_call 82;refine (hq _).mono ?_;rintro e w' ⟨rfl,hw'⟩;obtain rfl:=hw'.symm;clear hw')
    go_round
    case rel=>exact ⟨n+1,q,by omega,by go_num,rfl,HG⟩
    case measure=>simp [intOf];omega
   ·have HF:Hid (s.data.toList.all isQ=true):=(ypM s).2 fun j hj=>HE.out.1 rfl j hj (by omega)
    clear HE
    go_wp2
    all_goals go_ret
    all_goals exact ⟨by rw [show r=true from Hr.out.symm.trans HF.out];rfl,(Below.refl _ _).alloc (Nat.le_refl _) _⟩
theorem ye1 (b:Bool):yrW b=((if b=true then 0 else 3:Nat):Int):=by cases b <;> rfl
theorem yll (K N:Int) (s:ByteArray) (w:World) (hs:s.size≤140737488355328) :
  Calls Tryz.prog 33 #[.agg #[.int .i64 K,.int .i64 N,.string s]] w fun e w'=>e=.returned (.int .i64 (ycw K N s.data.toList:Nat))∧Below w.heap.size w w':=by
 have hS:=yee s
 by_cases h0:K=0
 ·subst h0
  have e:ycw 0 N s.data.toList=if ((N == 0)&&decide (s.data.toList=[]))=true then 0 else 3:=by simp [ycw]
  rw [e,← ye1]
  exact ytB N s w _ _ rfl hS
 by_cases h1:K=1
 ·subst h1
  have e:ycw 1 N s.data.toList=if (yfU N&&decide (s.data.toList=[]))=true then 0 else 3:=by simp [ycw]
  rw [e,← ye1]
  exact ytC N s w _ _ rfl hS
 by_cases h3:K=3
 ·subst h3
  have e:ycw 3 N s.data.toList=if ((decide (0≤N)&&decide (N≤1))&&decide (s.data.toList=[]))=true then 0 else 3:=by
   have:(N=0∨N=1)↔(0≤N∧N≤1):=by omega
   simp [ycw,this]
  rw [e,← ye1]
  exact ytD N s w _ _ rfl hS
 by_cases h2:K=2
 ·subst h2
  have hl:s.data.toList.length=s.size:=Array.length_toList
  by_cases hN:N=0
  ·subst hN
   by_cases hz:s.size≤20
   ·have e:ycw 2 0 s.data.toList=if (s.data.toList.all isQ)=true then 0 else 3:=by
     simp only [ycw,ydY,hl]
     simp [hz]
    rw [e,← ye1]
    exact yrQ s w hz _ rfl
   ·have e:ycw 2 0 s.data.toList=3:=by
     simp only [ycw,ydY,hl]
     simp [hz]
    rw [e]
    exact ypO 0 s w (Or.inr ⟨rfl,by omega⟩) hs
  ·have e:ycw 2 N s.data.toList=3:=by simp [ycw,hN]
   rw [e]
   exact ypO N s w (Or.inl (by simpa using hN)) hs
 have e:ycw K N s.data.toList=7:=by simp [ycw,h0,h1,h2,h3]
 rw [e]
 refine yqq K N s w ?_
 rw [Bool.and_eq_false_iff,decide_eq_false_iff_not,decide_eq_false_iff_not]
 omega
theorem ynN (k:Int) (w:World):Calls Tryz.prog 130 #[.int .i64 k] w fun e w'=>e=.returned (.int .i64 (yb0 k))∧Below w.heap.size w w':=by
 by_cases hk:k < 1∨11 < k
 ·have hb:(decide (1≤k)&&decide (k≤11))=false:=by
   rcases hk with h|h
   ·have:¬ 1≤k:=by omega
    simp [this]
   ·have:¬ k≤11:=by omega
    simp [this]
  have e:yb0 k = -1:=by rw [yb0,if_pos hk]
  rw [e]
  have hbt:=yb4 hb
  clear e hk hb
  go_enter Tryz.func130,Tryz.ntmps130
  go_wp2_with (go_at_call 31;refine (hbt _).mono ?_;rintro e w' ⟨rfl,hw'⟩;obtain rfl:=hw'.symm;clear hw')
  go_ret
  exact ⟨rfl,Below.refl _ _⟩
 ·have hb:(decide (1≤k)&&decide (k≤11))=true:=by
   have h1:1≤k:=by omega
   have h2:k≤11:=by omega
   simp [h1,h2]
  have hc:k=1∨k=2∨k=3∨k=4∨k=5∨k=6∨k=7∨k=8∨k=9∨k=10∨k=11:=by omega
  rcases hc with rfl|rfl|rfl|rfl|rfl|rfl|rfl|rfl|rfl|rfl|rfl
  all_goals
   have hbt:=yb4 hb
   clear hb hk
   go_enter Tryz.func130,Tryz.ntmps130
   go_wp2_with (go_at_call 31;refine (hbt _).mono ?_;rintro e w' ⟨rfl,hw'⟩;obtain rfl:=hw'.symm;clear hw')
   go_ret
   exact ⟨rfl,(Below.refl _ _).alloc (Nat.le_refl _) _⟩
theorem ykm (s:List UInt8) (b:Bool) (w:World) (hs:s.length≤140737488355328):Calls Tryz.prog 32 #[.string ⟨s.toArray⟩,.bool b] w fun e w'=>e=.returned (.bool (yaB s b))∧Below w.heap.size w w':=by
 have hn:=yeq ⟨s.toArray⟩ w (by rw [yaN];omega)
 have e0:(⟨s.toArray⟩:ByteArray).data.toList=s:=by simp
 rw [e0] at hn
 cases b with
 | true =>
  show Calls _ _ _ _ fun e w'=>e=.returned (.bool (yap s))∧_
  generalize yap s=r at hn ⊢
  go_enter Tryz.func32,Tryz.ntmps32
  go_wp2_with (go_at_call 34;refine hn.mono ?_;rintro e w' ⟨rfl,b1⟩)
  go_ret
  exact ⟨rfl,b1⟩
 | false =>
  have e1:yaB s false=s.isEmpty:=by unfold yaB;cases s <;> simp
  rw [e1]
  clear hn
  go_enter Tryz.func32,Tryz.ntmps32
  go_wp2
  go_ret
  exact ⟨yaF (by simp),Below.refl _ _⟩
theorem ynW (x:Vl):eqV x ⟨0,0,[]⟩=ybU x:=rfl
theorem ymF (x:Ex) (ao:Option Addr) (ca:Nat) (w:World) :
  Calls Tryz.prog 36 #[.agg #[.int .i64 x.k,.int .i64 x.v.k,.int .i64 x.v.n,.string ⟨x.v.s.toArray⟩,.string ⟨x.nm.toArray⟩,.slice ao x.args.length ca]] w fun e w'=>e=.returned (.bool (ybw x))∧Below w.heap.size w w':=by
 have hsv:=fun W=>yfB x.v ⟨0,0,[]⟩ W
 rw [ynW] at hsv
 unfold ybw
 generalize ybU x.v=B at hsv ⊢
 have hk:(x.k == 0)=decide (x.k=0):=by rw [Bool.eq_iff_iff];simp
 have hn:x.nm.isEmpty=decide (x.nm=[]):=by cases x.nm <;> simp
 have ha:((x.args.length:Int) == 0)=decide (x.args=[]):=by rw [Bool.eq_iff_iff];cases x.args <;> simp;omega
 generalize decide (x.k=0)=K at hk ⊢
 generalize decide (x.nm=[])=M at hn ⊢
 generalize decide (x.args=[])=A at ha ⊢
 have b0:∀ o,Below w.heap.size w (w.alloc o):=fun o=>(Below.refl _ _).alloc (Nat.le_refl _) o
 cases K <;> cases M <;> cases A
 all_goals
  go_enter Tryz.func36,Tryz.ntmps36
  go_wp2_with (go_at_call 25;refine (hsv _).mono ?_;rintro e w1 ⟨rfl,b1⟩)
  go_ret
  first|exact ⟨yaF (by simp),b0 _⟩|exact ⟨yaF (by simp),(b0 _).trans (b1.mono (by simp))⟩
def HeldX (w:World) (k:Int) (v:Vl) (nm:List UInt8) (a:Value) (W:World):Prop :=
 (∀ o x,([.int .i64 k,.int .i64 v.k,.int .i64 v.n,.string ⟨v.s.toArray⟩,.string ⟨nm.toArray⟩,a]:List Value)[o]?=some x→W.cell? ⟨w.heap.size,o,none⟩=some x)∧Below w.heap.size w W∧w.heap.size+1≤W.heap.size
theorem HeldX.start (w:World) (k:Int) (v:Vl) (nm:List UInt8) (a:Value):HeldX w k v nm a (w.alloc (.cells #[.int .i64 k,.int .i64 v.k,.int .i64 v.n,.string ⟨v.s.toArray⟩,.string ⟨nm.toArray⟩,a] 29)):=by
 refine ⟨fun o x hx=>?_,(Below.refl _ _).alloc (Nat.le_refl _) _,by simp⟩
 rw [Lib.cell_of_heap (heap_alloc_new w _)];simpa using hx
theorem HeldX.below {w:World} {k:Int} {v:Vl} {nm:List UInt8} {a:Value} {W W':World} (h:HeldX w k v nm a W) (hb:Below W.heap.size W W'):HeldX w k v nm a W':=by
 obtain ⟨h1,h3,h4⟩:=h
 exact ⟨fun o x hx=>(hb.cell (p:=⟨w.heap.size,o,none⟩) (by show w.heap.size < _;omega)).trans (h1 o x hx),h3.trans (hb.mono h3.size),Nat.le_trans h4 hb.size⟩
theorem HeldX.drew {w:World} {k:Int} {v:Vl} {nm:List UInt8} {a:Value} {W:World} (h:HeldX w k v nm a W):HeldX w k v nm a W.drew:=⟨h.1,h.2.1.drew,h.2.2⟩
theorem ymP (k:Int) (v:Vl) (nm:List UInt8) (ao:Option Addr) (n ca:Nat) (w:World) :
  Calls Tryz.prog 85 #[exV k v nm (.slice ao n ca)] w fun e w'=>e=.returned (.bool (yfw k v nm n))∧Below w.heap.size w w':=by
 have H0:=yae (HeldX.start w k v nm (.slice ao n ca))
 have hq1:=yae (ynN k)
 have hq2:=yae (fun W=>yfB v ⟨0,0,[]⟩ W)
 unfold exV
 go_enter Tryz.func85,Tryz.ntmps85
 go_wp2_with fail
 refine ydd pln_R (by kernel_rfl) ?_
 refine ytb (k:=k) (v:=v) (nm:=nm) (ao:=ao) (n:=n) (ca:=ca) (b:=w.heap.size) (S:=HeldX w k v nm (.slice ao n ca)) rfl (fun W h=>h.1) (fun W h=>(hq1.out W).mono fun e w' q=>⟨q.1,h.below q.2⟩) (fun W h=>(hq2.out W).mono fun e w' q=>⟨q.1,h.below q.2⟩) rfl H0.out.drew ?_
 intro w' hS
 refine ‹∀ (a:Act) (w:World),Code.wp _ _ _ a w→_› _ _ ?_
 refine wp_ret ?_
 exact ygg 28 rfl yhv rfl rfl (by simp) ⟨rfl,hS.2.1⟩
theorem ypa (n s e:Nat) (h:n≤e):n+min s (e - n+1)=min (n+s) (e+1):=by omega
theorem ykO (l:List Ex) (i:Nat) (y:Ex) (h:l[i]?=some y):ybE (l.take (i+1))=ybE (l.take i)+ya4 y:=by
 induction l generalizing i with
 | nil=>simp at h
 | cons z r ih =>
  cases i with
  | zero=>simp at h;subst h;simp [ybE]
  | succ i =>
   have:=ih i (by simpa using h)
   simp only [List.take_succ_cons,ybE]
   omega
theorem ynt (l:List Ex) (i:Nat):ybE (l.take i)≤ybE l:=by
 induction l generalizing i with
 | nil=>simp
 | cons z r ih =>
  cases i with
  | zero=>simp [ybE]
  | succ i=>have:=ih i;simp only [List.take_succ_cons,ybE];omega
theorem yhq (k:Int) (x:Vl) (nm:List UInt8) (ao:Option Addr) (n ca e:Nat) (xs:List Ex) (us:Nat→Value) (w:World) (hx:xs.length=n) (he:e≤15)
  (h1:0 < n→∃ g o,ao=some ⟨g,o,none⟩∧g < w.heap.size∧(∀ i,i < n→Six w g (o+6*i) (us i))) (hn:n≤1000000000000000)
  (hc:∀ i y,xs[i]?=some y→∀ e:Nat,e≤15→∀ W,Below w.heap.size w W→Calls Tryz.prog 30 #[us i,.int .i64 (e:Nat)] W fun r w'=>r=.returned (.int .i64 ((min (ya4 y) (e+1):Nat)))∧Below W.heap.size W w') :
  Calls Tryz.prog 30 #[exV k x nm (.slice ao n ca),.int .i64 (e:Nat)] w fun r w'=>r=.returned (.int .i64 ((min (1+ybE xs) (e+1):Nat)))∧Below w.heap.size w w':=by
 have b0:∀ o,Below w.heap.size w (w.alloc o):=fun o=>(Below.refl _ _).alloc (Nat.le_refl _) o
 have H1:=yae h1
 have HC:=yae hc
 clear h1 hc
 unfold exV
 go_enter Tryz.func30,Tryz.ntmps30
 go_wp2
 go_loopw [5,6] (fun r i wl=>∃ (m k:Nat),r=.int .i64 (m:Nat)∧i=.int .i64 (k:Nat)∧k≤n∧m=min (1+ybE (xs.take k)) (e+1)∧m≤16∧wl.cell? ⟨w.heap.size,5,none⟩=some (.slice ao n ca)∧Below w.heap.size w wl∧w.heap.size+1≤wl.heap.size) (fun _ i _=>n - (intOf i).toNat)
 case atStart=>exact ⟨1,0,rfl,rfl,Nat.zero_le _,by simp [ybE],by omega,by simp,b0 _,by simp⟩
 case round =>
  obtain ⟨m,i,rfl,rfl,hi,hm,hm16,d0,hnx,hsz⟩:=hrel
  have HM:=yae hm
  clear hm
  by_cases hlt:i < n
  ·by_cases hme:m≤e
   ·obtain ⟨y,hy1⟩:∃ y,xs[i]?=some y:=⟨xs[i]'(by omega),List.getElem?_eq_getElem (by omega)⟩
    obtain ⟨g,o,rfl,hg,f1⟩:=H1.out (by omega)
    have kc:=HC.out i y hy1 (e - m) (by omega)
    obtain ⟨ky,vy,ny,ay,ey,s0,s1,s2,s3,s4,s5⟩:=f1 i hlt
    rw [ey] at kc
    unfold exV at kc
    have up:∀ b o,b < w.heap.size→wr.cell? ⟨b,o,none⟩=w.cell? ⟨b,o,none⟩:=fun b o hb=>hnx.cell (p:=⟨b,o,none⟩) hb
    have e0:=(up _ _ hg).trans s0
    have e1:=(up _ _ hg).trans s1
    have e2:=(up _ _ hg).trans s2
    have e3:=(up _ _ hg).trans s3
    have e4:=(up _ _ hg).trans s4
    have e5:=(up _ _ hg).trans s5
    have HX:=yae hy1
    have hlt':(i:Int) < (n:Int):=by omega
    have hme':(m:Int)≤(e:Int):=by omega
    have hsub:((e - m:Nat):Int)=(e:Int) - (m:Int):=by omega
    rw [hsub] at kc
    have hmin:((min (ya4 y) (e - m+1):Nat):Int)≤16:=by omega
    have hmin0:(0:Int)≤((min (ya4 y) (e - m+1):Nat):Int):=by omega
    rw [Nat.mul_comm 6 i] at e0 e1 e2 e3 e4 e5
    have HMin:=yae (rfl:min (ya4 y) (e - m+1)=min (ya4 y) (e - m+1))
    generalize hq:min (ya4 y) (e - m+1)=q at kc hmin hmin0
    have HQ:=yae hq
    clear s0 s1 s2 s3 s4 s5 hy1 H1 HC up ey hsub hq HMin
    go_wp2_with (go_at_call 30;refine (kc _ hnx).mono ?_;rintro r w1 ⟨rfl,b1⟩;have d1:=(b1.cell (p:=⟨w.heap.size,5,none⟩) (by show w.heap.size < _;omega)).trans d0)
    have hs1:=b1.size
    go_roundw
    case rel =>
     refine ⟨m+q,i+1,by go_num,by go_num,by omega, ?_, ?_,d1,hnx.trans (b1.mono hnx.size),by omega⟩
     ·rw [ykO xs i y HX.out,← HQ.out,ypa _ _ _ hme,HM.out]
      have:=HM.out
      omega
     ·have:=HQ.out
      omega
    case measure=>simp [intOf];omega
   ·have hme':(e:Int) < (m:Int):=by omega
    have hlt':(i:Int) < (n:Int):=by omega
    clear H1 HC
    go_wp2
    go_ret
    refine ⟨ycA ?_,hnx⟩
    have h2:ybE (xs.take i)≤ybE xs:=ynt xs i
    have:=HM.out
    omega
  ·clear H1 HC
   have hlt':¬ ((i:Int) < (n:Int)):=by omega
   go_wp2
   go_ret
   refine ⟨ycA ?_,hnx⟩
   have h2:xs.take i=xs:=List.take_of_length_le (by omega)
   have:=HM.out
   rw [h2] at this
   omega
theorem yfu (n:Nat):∀ (x:Ex) (u:Value) (w0:World),ya4 x≤n→ExAt 0 w0 u x→Fit x→∀ e:Nat,e≤15→∀ W,Below w0.heap.size w0 W →
  Calls Tryz.prog 30 #[u,.int .i64 (e:Nat)] W fun r w'=>r=.returned (.int .i64 ((min (ya4 x) (e+1):Nat)))∧Below W.heap.size W w':=by
 induction n with
 | zero=>intro x u w0 h;have:=yev x;omega
 | succ n ih =>
  intro x u w0 hs hx hf e he W hW
  obtain ⟨ao,ca,us,rfl,h1⟩:=hx.spread
  have keep:∀ {g o:Nat} {u:Value},g < w0.heap.size→Six w0 g o u→Six W g o u:=fun hg h=>h.keep (hW.block _ hg)
  rw [yeO x,Nat.add_comm (ybE x.args) 1]
  refine yhq x.k x.v x.nm ao x.args.length ca e x.args us W rfl he ?_ hf.few ?_
  ·intro h0
   obtain ⟨g,o,rfl,-,hg,hc,-⟩:=h1 h0
   exact ⟨g,o,rfl,Nat.lt_of_lt_of_le hg hW.size,fun i hi=>keep hg (hc i hi)⟩
  ·intro i y hy e' he' W' hW'
   have h0:0 < x.args.length:=by have:=(List.getElem?_eq_some_iff.1 hy).1;omega
   obtain ⟨g,o,-,-,-,-,hex⟩:=h1 h0
   exact ih y (us i) w0 (by have:=ygN hy;omega) (hex i y hy) (hf.arg hy) e' he' W' (hW.trans (hW'.mono hW.size))
theorem ygw:∀ l:List Ex,yi6 l=l.all exR
 | []=>rfl
 | x::r=>by rw [yi6,ygw r];rfl
theorem ysq (k:Int) (x:Vl) (nm:List UInt8) (ao:Option Addr) (n ca:Nat) (w:World) (A B C:Bool) (E:Int) (hk:(k == 2)=B)
  (hp:∀ W:World,Calls Tryz.prog 85 #[.agg #[.int .i64 k,.int .i64 x.k,.int .i64 x.n,.string ⟨x.s.toArray⟩,.string ⟨nm.toArray⟩,.slice ao n ca]] W fun e w'=>e=.returned (.bool A)∧Below W.heap.size W w')
  (hn:∀ W:World,Calls Tryz.prog 34 #[.string ⟨nm.toArray⟩] W fun e w'=>e=.returned (.bool C)∧Below W.heap.size W w')
  (hv:∀ W:World,Calls Tryz.prog 33 #[.agg #[.int .i64 x.k,.int .i64 x.n,.string ⟨x.s.toArray⟩]] W fun e w'=>e=.returned (.int .i64 E)∧Below W.heap.size W w')
  (hno:A=false∨(A=true∧B=true∧C=false)∨(A=true∧(B=true→C=true)∧¬ E=0)) :
  Calls Tryz.prog 35 #[exV k x nm (.slice ao n ca)] w fun e w'=>e=.returned (.bool false)∧Below w.heap.size w w':=by
 have b0:∀ o,Below w.heap.size w (w.alloc o):=fun o=>(Below.refl _ _).alloc (Nat.le_refl _) o
 unfold exV
 have cell5:∀ {W W':World} (o:Nat) (v:Value),w.heap.size+1≤W.heap.size→Below W.heap.size W W'→W.cell? ⟨w.heap.size,o,none⟩=some v→W'.cell? ⟨w.heap.size,o,none⟩=some v :=
  fun o v hs hb h=>(hb.cell (p:=⟨w.heap.size,o,none⟩) (by show w.heap.size < _;omega)).trans h
 rcases hno with rfl|⟨rfl,rfl,rfl⟩|⟨rfl,hbc,hE⟩
 ·clear hn hv cell5
  go_enter Tryz.func35,Tryz.ntmps35
  go_wp2_with (go_at_call 85;refine (hp _).mono ?_;rintro e w1 ⟨rfl,b1⟩)
  go_ret
  exact ⟨rfl,(b0 _).trans (b1.mono (by simp))⟩
 ·clear hv
  go_enter Tryz.func35,Tryz.ntmps35
  go_wp2_with fail
  refine (hp _).mono ?_
  rintro e w1 ⟨rfl,b1⟩
  have s1:w.heap.size+1≤w1.heap.size:=by have:=b1.size;simp at this;omega
  have c0:=b1.cell (p:=⟨w.heap.size,0,none⟩) (by simp)
  have c4:=b1.cell (p:=⟨w.heap.size,4,none⟩) (by simp)
  simp at c0 c4
  have q1:Below w.heap.size w w1:=(b0 _).trans (b1.mono (by simp))
  clear b1 hp b0 cell5
  go_wp2_with (go_at_call 34;refine (hn _).mono ?_;rintro e w2 ⟨rfl,b2⟩)
  go_ret
  exact ⟨rfl,q1.trans (b2.mono q1.size)⟩
 ·cases B with
  | false =>
   clear hn
   go_enter Tryz.func35,Tryz.ntmps35
   go_wp2_with fail
   refine (hp _).mono ?_
   rintro e w1 ⟨rfl,b1⟩
   have s1:w.heap.size+1≤w1.heap.size:=by have:=b1.size;simp at this;omega
   have c0:=b1.cell (p:=⟨w.heap.size,0,none⟩) (by simp)
   have c1:=b1.cell (p:=⟨w.heap.size,1,none⟩) (by simp)
   have c2:=b1.cell (p:=⟨w.heap.size,2,none⟩) (by simp)
   have c3:=b1.cell (p:=⟨w.heap.size,3,none⟩) (by simp)
   simp at c0 c1 c2 c3
   have q1:Below w.heap.size w w1:=(b0 _).trans (b1.mono (by simp))
   clear b1 hp b0 cell5 hbc
   go_wp2_with (go_at_call 33;refine (hv _).mono ?_;rintro e w2 ⟨rfl,b2⟩)
   go_ret
   exact ⟨rfl,q1.trans (b2.mono q1.size)⟩
  | true =>
   obtain rfl:=hbc rfl
   go_enter Tryz.func35,Tryz.ntmps35
   go_wp2_with fail
   refine (hp _).mono ?_
   rintro e w1 ⟨rfl,b1⟩
   have s1:w.heap.size+1≤w1.heap.size:=by have:=b1.size;simp at this;omega
   have c0:=b1.cell (p:=⟨w.heap.size,0,none⟩) (by simp)
   have c1:=b1.cell (p:=⟨w.heap.size,1,none⟩) (by simp)
   have c2:=b1.cell (p:=⟨w.heap.size,2,none⟩) (by simp)
   have c3:=b1.cell (p:=⟨w.heap.size,3,none⟩) (by simp)
   have c4:=b1.cell (p:=⟨w.heap.size,4,none⟩) (by simp)
   simp at c0 c1 c2 c3 c4
   have q1:Below w.heap.size w w1:=(b0 _).trans (b1.mono (by simp))
   clear b1 hp b0 hbc
   go_wp2_with fail
   refine (hn _).mono ?_
   rintro e w2 ⟨rfl,b2⟩
   have d1:=cell5 1 _ s1 b2 c1
   have d2:=cell5 2 _ s1 b2 c2
   have d3:=cell5 3 _ s1 b2 c3
   have q2:=q1.trans (b2.mono q1.size)
   clear c0 c1 c2 c3 c4 cell5 hn
   go_wp2_with (go_at_call 33;refine (hv _).mono ?_;rintro e w3 ⟨rfl,b3⟩)
   go_ret
   exact ⟨rfl,q2.trans (b3.mono q2.size)⟩
theorem yq7 (k:Int) (x:Vl) (nm:List UInt8) (ao:Option Addr) (n ca:Nat) (xs:List Ex) (us:Nat→Value) (w:World) (B:Bool) (hk:(k == 2)=B) (hx:xs.length=n) (hn0:n≤1000000000000000)
  (hp:∀ W:World,Calls Tryz.prog 85 #[.agg #[.int .i64 k,.int .i64 x.k,.int .i64 x.n,.string ⟨x.s.toArray⟩,.string ⟨nm.toArray⟩,.slice ao n ca]] W fun e w'=>e=.returned (.bool true)∧Below W.heap.size W w')
  (hn:B=true→∀ W:World,Calls Tryz.prog 34 #[.string ⟨nm.toArray⟩] W fun e w'=>e=.returned (.bool true)∧Below W.heap.size W w')
  (hv:∀ W:World,Calls Tryz.prog 33 #[.agg #[.int .i64 x.k,.int .i64 x.n,.string ⟨x.s.toArray⟩]] W fun e w'=>e=.returned (.int .i64 0)∧Below W.heap.size W w')
  (h1:0 < n→∃ g o,ao=some ⟨g,o,none⟩∧g < w.heap.size∧(∀ i,i < n→Six w g (o+6*i) (us i)))
  (hc:∀ i y,xs[i]?=some y→∀ W,Below w.heap.size w W→Calls Tryz.prog 35 #[us i] W fun e w'=>e=.returned (.bool (exR y))∧Below W.heap.size W w') :
  Calls Tryz.prog 35 #[exV k x nm (.slice ao n ca)] w fun e w'=>e=.returned (.bool (yi6 xs))∧Below w.heap.size w w':=by
 have b0:∀ o,Below w.heap.size w (w.alloc o):=fun o=>(Below.refl _ _).alloc (Nat.le_refl _) o
 have H1:=yae h1
 have HC:=yae hc
 have HN:=yae hn
 clear h1 hc hn
 unfold exV
 have cell5:∀ {W W':World} (o:Nat) (v:Value),w.heap.size+1≤W.heap.size→Below W.heap.size W W'→W.cell? ⟨w.heap.size,o,none⟩=some v→W'.cell? ⟨w.heap.size,o,none⟩=some v :=
  fun o v hs hb h=>(hb.cell (p:=⟨w.heap.size,o,none⟩) (by show w.heap.size < _;omega)).trans h
 go_enter Tryz.func35,Tryz.ntmps35
 go_wp2_with fail
 refine (hp _).mono ?_
 rintro e w1 ⟨rfl,b1⟩
 have s1:w.heap.size+1≤w1.heap.size:=by have:=b1.size;simp at this;omega
 have c0:=b1.cell (p:=⟨w.heap.size,0,none⟩) (by simp)
 have c1:=b1.cell (p:=⟨w.heap.size,1,none⟩) (by simp)
 have c2:=b1.cell (p:=⟨w.heap.size,2,none⟩) (by simp)
 have c3:=b1.cell (p:=⟨w.heap.size,3,none⟩) (by simp)
 have c4:=b1.cell (p:=⟨w.heap.size,4,none⟩) (by simp)
 have c5:=b1.cell (p:=⟨w.heap.size,5,none⟩) (by simp)
 simp at c0 c1 c2 c3 c4 c5
 have q1:Below w.heap.size w w1:=(b0 _).trans (b1.mono (by simp))
 clear b1 hp b0
 cases B
 case' false =>
  go_wp2_with fail
  refine (hv _).mono ?_
  rintro e w3 ⟨rfl,b3⟩
  have f5:=cell5 5 _ s1 b3 c5
  have q3:=q1.trans (b3.mono q1.size)
  have s3:w.heap.size+1≤w3.heap.size:=by have:=b3.size;omega
 case' true =>
  go_wp2_with fail
  refine (HN.out (by first|rfl|trivial) _).mono ?_
  rintro e w2 ⟨rfl,b2⟩
  have d1:=cell5 1 _ s1 b2 c1
  have d2:=cell5 2 _ s1 b2 c2
  have d3:=cell5 3 _ s1 b2 c3
  have d5:=cell5 5 _ s1 b2 c5
  have s2:w.heap.size+1≤w2.heap.size:=by have:=b2.size;omega
  have q2:=q1.trans (b2.mono q1.size)
  go_wp2_with fail
  refine (hv _).mono ?_
  rintro e w3 ⟨rfl,b3⟩
  have f5:=cell5 5 _ s2 b3 d5
  have q3:=q2.trans (b3.mono q2.size)
  have s3:w.heap.size+1≤w3.heap.size:=by have:=b3.size;omega
  clear d1 d2 d3 d5 s2 q2 b2
 all_goals
  clear c0 c1 c2 c3 c4 c5 s1 q1 b3 hv HN
  go_wp2
  go_loopw [3] (fun i wl=>∃ k:Nat,k≤n∧i=.int .i64 k∧wl.cell? ⟨w.heap.size,5,none⟩=some (.slice ao n ca)∧Below w.heap.size w wl∧w.heap.size+1≤wl.heap.size∧Hid (∀ j y,j < k→xs[j]?=some y→exR y=true)) (fun i _=>n - (intOf i).toNat)
  case atStart=>exact ⟨0,Nat.zero_le _,rfl,f5,q3,s3,fun j _ hj=>absurd hj (Nat.not_lt_zero _)⟩
  case round =>
   obtain ⟨i,hi,rfl,d0,hnx,hsz,HA⟩:=hrel
   clear f5 q3 s3
   by_cases hlt:i < n
   ·obtain ⟨y,hy1⟩:∃ y,xs[i]?=some y:=⟨xs[i]'(by omega),List.getElem?_eq_getElem (by omega)⟩
    obtain ⟨g,o,rfl,hg,f1⟩:=H1.out (by omega)
    have kc:=HC.out i y hy1
    obtain ⟨ky,vy,ny,ay,ey,t0,t1,t2,t3,t4,t5⟩:=f1 i hlt
    rw [ey] at kc
    unfold exV at kc
    have up:∀ b o,b < w.heap.size→wr.cell? ⟨b,o,none⟩=w.cell? ⟨b,o,none⟩:=fun b o hb=>hnx.cell (p:=⟨b,o,none⟩) hb
    have e0:=(up _ _ hg).trans t0
    have e1:=(up _ _ hg).trans t1
    have e2:=(up _ _ hg).trans t2
    have e3:=(up _ _ hg).trans t3
    have e4:=(up _ _ hg).trans t4
    have e5:=(up _ _ hg).trans t5
    have HX:=yae hy1
    have hlt':(i:Int) < (n:Int):=by omega
    rw [Nat.mul_comm 6 i] at e0 e1 e2 e3 e4 e5
    generalize hq:exR y=q at kc
    have HQ:=yae hq
    clear t0 t1 t2 t3 t4 t5 hy1 H1 HC up ey hq
    cases q with
    | true =>
     go_wp2_with (go_at_call 35;refine (kc _ hnx).mono ?_;rintro r w4 ⟨rfl,b4⟩;have d4:=(b4.cell (p:=⟨w.heap.size,5,none⟩) (by show w.heap.size < _;omega)).trans d0)
     have hs4:=b4.size
     go_roundw
     case rel =>
      refine ⟨i+1,by omega,by go_num,d4,hnx.trans (b4.mono hnx.size),by omega,fun j y' hj hy'=>?_⟩
      rcases Nat.lt_or_ge j i with hjk|hjk
      ·exact HA.out j y' hjk hy'
      ·have h:=HX.out
       rw [show j=i by omega,h] at hy'
       cases hy'
       exact HQ.out
     case measure=>simp [intOf];omega
    | false =>
     go_wp2_with (go_at_call 35;refine (kc _ hnx).mono ?_;rintro r w4 ⟨rfl,b4⟩)
     go_ret
     refine ⟨yaF ?_,hnx.trans (b4.mono hnx.size)⟩
     rw [ygw]
     symm
     rw [List.all_eq_false]
     exact ⟨y,List.mem_of_getElem? HX.out,by rw [HQ.out];decide⟩
   ·clear H1 HC
    have hlt':¬ ((i:Int) < (n:Int)):=by omega
    go_wp2
    go_ret
    refine ⟨yaF ?_,hnx⟩
    rw [ygw]
    symm
    rw [List.all_eq_true]
    intro y hy
    obtain ⟨j,hj⟩:=List.getElem?_of_mem hy
    exact HA.out j y (by have:=(List.getElem?_eq_some_iff.1 hj).1;omega) hj
theorem yl5 (n:Nat):∀ (x:Ex) (u:Value) (w0:World),ya4 x≤n→ExAt 0 w0 u x→Fit x→∀ W,Below w0.heap.size w0 W →
  Calls Tryz.prog 35 #[u] W fun e w'=>e=.returned (.bool (exR x))∧Below W.heap.size W w':=by
 induction n with
 | zero=>intro x u w0 h;have:=yev x;omega
 | succ n ih =>
  intro x u w0 hs hx hf W hW
  obtain ⟨ao,ca,us,rfl,h1⟩:=hx.spread
  have keep:∀ {g o:Nat} {u:Value},g < w0.heap.size→Six w0 g o u→Six W g o u:=fun hg h=>h.keep (hW.block _ hg)
  have hp:=fun W=>ymP x.k x.v x.nm ao x.args.length ca W
  unfold exV at hp
  have hz:x.nm.length≤140737488355328∧x.v.s.length≤140737488355328:=by
   cases hf with
   | mk k v nm args hv hn ha hh=>exact ⟨hn,hv⟩
  have hn:∀ W:World,Calls Tryz.prog 34 #[.string ⟨x.nm.toArray⟩] W fun e w'=>e=.returned (.bool (yap x.nm))∧Below W.heap.size W w':=by
   intro W
   have:=yeq ⟨x.nm.toArray⟩ W (by rw [yaN];omega)
   have e0:(⟨x.nm.toArray⟩:ByteArray).data.toList=x.nm:=by simp
   rw [e0] at this
   exact this
  have hv:∀ W:World,Calls Tryz.prog 33 #[.agg #[.int .i64 x.v.k,.int .i64 x.v.n,.string ⟨x.v.s.toArray⟩]] W fun e w'=>e=.returned (.int .i64 ((ycw x.v.k x.v.n x.v.s:Nat):Int))∧Below W.heap.size W w':=by
   intro W
   have:=yll x.v.k x.v.n ⟨x.v.s.toArray⟩ W (by rw [yaN];omega)
   have e0:(⟨x.v.s.toArray⟩:ByteArray).data.toList=x.v.s:=by simp
   rw [e0] at this
   exact this
  have hk:(x.k == 2)=decide (x.k=2):=by rw [Bool.eq_iff_iff];simp
  have he:exR x=(yfw x.k x.v x.nm x.args.length&&!(decide (x.k=2)&&!yap x.nm)&&ycm x.v&&yi6 x.args):=by cases x;rw [exR];rfl
  by_cases hy:yfw x.k x.v x.nm x.args.length=true∧(decide (x.k=2)=true→yap x.nm=true)∧ycw x.v.k x.v.n x.v.s=0
  ·obtain ⟨y1,y2,y3⟩:=hy
   have e1:exR x=yi6 x.args:=by
    rw [he,y1,ycm,y3]
    cases hd:decide (x.k=2) with
    | false=>simp
    | true=>rw [y2 hd];simp
   rw [e1]
   rw [y1] at hp
   rw [y3] at hv
   refine yq7 x.k x.v x.nm ao x.args.length ca x.args us W _ hk rfl hf.few hp (fun hb=>by have:=hn;rw [y2 hb] at this;exact this) hv ?_ ?_
   ·intro h0
    obtain ⟨g,o,rfl,-,hg,hc,-⟩:=h1 h0
    exact ⟨g,o,rfl,Nat.lt_of_lt_of_le hg hW.size,fun i hi=>keep hg (hc i hi)⟩
   ·intro i y hy W' hW'
    have h0:0 < x.args.length:=by have:=(List.getElem?_eq_some_iff.1 hy).1;omega
    obtain ⟨g,o,-,-,-,-,hex⟩:=h1 h0
    exact ih y (us i) w0 (by have:=ygN hy;omega) (hex i y hy) (hf.arg hy) W' (hW.trans (hW'.mono hW.size))
  ·have e1:exR x=false:=by
    rw [he]
    apply Bool.eq_false_iff.2
    intro h
    simp only [Bool.and_eq_true,ycm,decide_eq_true_eq,Bool.not_eq_true',Bool.and_eq_false_iff,Bool.not_eq_false'] at h
    refine hy ⟨h.1.1.1,fun hd=>?_,h.1.2⟩
    rcases h.1.1.2 with h2|h2
    ·rw [h2] at hd;cases hd
    ·exact h2
   rw [e1]
   refine ysq x.k x.v x.nm ao x.args.length ca W _ _ _ _ hk hp hn hv ?_
   cases hA:yfw x.k x.v x.nm x.args.length with
   | false=>exact .inl rfl
   | true =>
    by_cases hB:decide (x.k=2)=true∧yap x.nm=false
    ·exact .inr (.inl ⟨rfl,hB.1,hB.2⟩)
    ·refine .inr (.inr ⟨rfl,fun hd=>?_,fun h0=>hy ⟨hA,fun hd=>?_,by omega⟩⟩)
     ·cases hN:yap x.nm with
      | true=>rfl
      | false=>exact absurd ⟨hd,hN⟩ hB
     ·cases hN:yap x.nm with
      | true=>rfl
      | false=>exact absurd ⟨hd,hN⟩ hB
def HeldC (w:World) (c:Cm) (cv vv fv ea wa:Value) (W:World):Prop :=
 (∀ o x,(cmL c cv vv fv ea wa)[o]?=some x→W.cell? ⟨w.heap.size,o,none⟩=some x)∧Below w.heap.size w W∧w.heap.size+1≤W.heap.size
theorem HeldC.start (w:World) (c:Cm) (cv vv fv ea wa:Value):HeldC w c cv vv fv ea wa (w.alloc (.cells (cmL c cv vv fv ea wa).toArray 31)):=by
 refine ⟨fun o x hx=>?_,(Below.refl _ _).alloc (Nat.le_refl _) _,by simp⟩
 rw [Lib.cell_of_heap (heap_alloc_new w _)];simpa using hx
theorem HeldC.below {w:World} {c:Cm} {cv vv fv ea wa:Value} {W W':World} (h:HeldC w c cv vv fv ea wa W) (hb:Below W.heap.size W W'):HeldC w c cv vv fv ea wa W':=by
 obtain ⟨h1,h3,h4⟩:=h
 exact ⟨fun o x hx=>(hb.cell (p:=⟨w.heap.size,o,none⟩) (by show w.heap.size < _;omega)).trans (h1 o x hx),h3.trans (hb.mono h3.size),Nat.le_trans h4 hb.size⟩
theorem ybs {α:Type} (C:α→List Value) {m:Nat} (hC:∀ y,(C y).length=m):∀ (L:List α) (i k:Nat) (y:α) (v:Value),L[i]?=some y→(C y)[k]?=some v→(L.flatMap C)[i*m+k]?=some v
 | [],i,k,y,v,h,_=>by simp at h
 | z::r,0,k,y,v,h,hv=>by
  simp at h
  subst h
  rw [List.flatMap_cons,Nat.zero_mul,Nat.zero_add,List.getElem?_append_left (List.getElem?_eq_some_iff.1 hv).1]
  exact hv
 | z::r,i+1,k,y,v,h,hv=>by
  rw [List.flatMap_cons,List.getElem?_append_right (by rw [hC,Nat.add_mul];omega),hC]
  have e:(i+1)*m+k - m=i*m+k:=by rw [Nat.add_mul];omega
  rw [e]
  exact ybs C hC r i k y v (by simpa using h) hv
theorem RowAt.slice {B:Nat} {w:World} {u:Value} {n:Nat} {xs:List Value} (h:RowAt B w u n xs):∃ ao cap,u=.slice ao n cap∧(0 < n→∃ b off,ao=some ⟨b,off,none⟩∧b < w.heap.size∧∀ j x,xs[j]?=some x→w.cell? ⟨b,off+j,none⟩=some x):=by
 rcases h with ⟨rfl,ao,cap,rfl⟩|⟨b,off,cap,rfl,-,hb,hc⟩
 ·exact ⟨ao,cap,rfl,fun h=>absurd h (Nat.lt_irrefl 0)⟩
 ·exact ⟨_,cap,rfl,fun _=>⟨b,off,rfl,hb,hc⟩⟩
theorem ExAt.slice {B:Nat} {w:World} {k:Int} {v:Vl} {nm:List UInt8} {a:Value} {x:Ex} (h:ExAt B w (exV k v nm a) x):∃ ao cap,a=.slice ao x.args.length cap:=by
 obtain ⟨ao,ca,us,e,-⟩:=h.spread
 simp only [exV,Value.agg.injEq,Array.mk.injEq,List.cons.injEq,and_true] at e
 exact ⟨ao,ca,e.2.2.2.2.2⟩
theorem ytz {w:World} {c:Cm} {a1 a2 a3 a4 a5:Option Addr} {c1 c2 c3 c4 c5:Nat} (he:ExAt 0 w (exV c.expr.k c.expr.v c.expr.nm (.slice a4 c.expr.args.length c4)) c.expr) (hw:ExAt 0 w (exV c.wh.k c.wh.v c.wh.nm (.slice a5 c.wh.args.length c5)) c.wh) (hf:CmFit c) :
  CkS c w.heap.size a1 a2 a3 a4 a5 c1 c2 c3 c4 c5 (HeldC w c (.slice a1 c.cols.length c1) (.slice a2 c.vals.length c2) (.slice a3 c.fields.length c3) (.slice a4 c.expr.args.length c4) (.slice a5 c.wh.args.length c5)) where
 cell:=fun W h=>h.1
 drew:=fun W h=>⟨h.1,h.2.1.drew,h.2.2⟩
 btw:=fun n x y W h=>(yce n x y W).mono fun e w' q=>⟨q.1,by rw [q.2];exact h⟩
 nmi:=fun s p hs W h=>(ykm s p W hs).mono fun e w' q=>⟨q.1,h.below q.2⟩
 nam:=fun s hs W h=>by
  have:=yeq ⟨s.toArray⟩ W (by rw [yaN];omega)
  have e0:(⟨s.toArray⟩:ByteArray).data.toList=s:=by simp
  rw [e0] at this
  exact this.mono fun e w' q=>⟨q.1,h.below q.2⟩
 ckv:=fun v hs W h=>by
  have:=yll v.k v.n ⟨v.s.toArray⟩ W (by rw [yaN];omega)
  have e0:(⟨v.s.toArray⟩:ByteArray).data.toList=v.s:=by simp
  rw [e0] at this
  exact this.mono fun e w' q=>⟨q.1,h.below q.2⟩
 smv:=fun v W h=>(yfB v ⟨0,0,[]⟩ W).mono fun e w' q=>⟨q.1,h.below q.2⟩
 ixe:=fun W h=>(yl5 _ c.expr _ w (Nat.le_refl _) he hf.expr W h.2.1).mono fun e w' q=>⟨q.1,h.below q.2⟩
 ixw:=fun W h=>(yl5 _ c.wh _ w (Nat.le_refl _) hw hf.wh W h.2.1).mono fun e w' q=>⟨q.1,h.below q.2⟩
 noe:=fun W h=>(ymF c.expr a4 c4 W).mono fun e w' q=>⟨q.1,h.below q.2⟩
 now:=fun W h=>(ymF c.wh a5 c5 W).mono fun e w' q=>⟨q.1,h.below q.2⟩
theorem yrg (c:Cm):(((((decide (5 < ((c.cols.length:Nat):Int))) || (decide (5 < ((c.vals.length:Nat):Int)))) || (decide (5 < ((c.fields.length:Nat):Int)))) || (decide (15 < ((min (ya4 c.expr) (15+1):Nat):Int)))) || (decide (15 < ((min (ya4 c.wh) (15+1):Nat):Int))))=ybQ c:=by
 unfold ybQ
 rw [Bool.eq_iff_iff]
 simp only [Bool.or_eq_true,decide_eq_true_eq]
 omega
theorem yg0 (c:Cm) (cv vv fv ea wa:Value) {w:World} (hi:CmIn 0 w c cv vv fv ea wa) (hf:CmFit c) :
  Calls Tryz.prog 13 #[.agg (cmL c cv vv fv ea wa).toArray] w fun e w'=>e=.returned (.int .i64 (yeb (ybQ c) (yeJ c)))∧Below w.heap.size w w':=by
 obtain ⟨a1,c1,rfl,h1⟩:=hi.cols.slice
 obtain ⟨a2,c2,rfl,h2⟩:=hi.vals.slice
 obtain ⟨a3,c3,rfl,h3⟩:=hi.fields.slice
 obtain ⟨a4,c4,rfl⟩:=hi.expr.slice
 obtain ⟨a5,c5,rfl⟩:=hi.wh.slice
 have K:=yae (ytz (a1:=a1) (a2:=a2) (a3:=a3) (c1:=c1) (c2:=c2) (c3:=c3) hi.expr hi.wh hf)
 have H0:=yae (HeldC.start w c (.slice a1 c.cols.length c1) (.slice a2 c.vals.length c2) (.slice a3 c.fields.length c3) (.slice a4 c.expr.args.length c4) (.slice a5 c.wh.args.length c5))
 have g1:=yae (show 0 < c.cols.length→∃ g o,a1=some ⟨g,o,none⟩∧∀ W,HeldC w c (.slice a1 c.cols.length c1) (.slice a2 c.vals.length c2) (.slice a3 c.fields.length c3) (.slice a4 c.expr.args.length c4) (.slice a5 c.wh.args.length c5) W→∀ i x,c.cols[i]?=some x→W.cell? ⟨g,o+i*2,none⟩=some (.string ⟨x.name.toArray⟩)∧W.cell? ⟨g,o+i*2+1,none⟩=some (.int .i64 x.ty) by
  intro h0
  obtain ⟨g,o,e,hg,hc⟩:=h1 h0
  refine ⟨g,o,e,fun W hW i x hx=>?_⟩
  have up:∀ o,W.cell? ⟨g,o,none⟩=w.cell? ⟨g,o,none⟩:=fun o=>hW.2.1.cell (p:=⟨g,o,none⟩) hg
  rw [up,up]
  exact ⟨hc _ _ (ybs clC (m:=2) (fun _=>rfl) c.cols i 0 x _ hx rfl),hc _ _ (ybs clC (m:=2) (fun _=>rfl) c.cols i 1 x _ hx rfl)⟩)
 have g2:=yae (show 0 < c.vals.length→∃ g o,a2=some ⟨g,o,none⟩∧∀ W,HeldC w c (.slice a1 c.cols.length c1) (.slice a2 c.vals.length c2) (.slice a3 c.fields.length c3) (.slice a4 c.expr.args.length c4) (.slice a5 c.wh.args.length c5) W→∀ i x,c.vals[i]?=some x→W.cell? ⟨g,o+i*3,none⟩=some (.int .i64 x.k)∧W.cell? ⟨g,o+i*3+1,none⟩=some (.int .i64 x.n)∧W.cell? ⟨g,o+i*3+2,none⟩=some (.string ⟨x.s.toArray⟩) by
  intro h0
  obtain ⟨g,o,e,hg,hc⟩:=h2 h0
  refine ⟨g,o,e,fun W hW i x hx=>?_⟩
  have up:∀ o,W.cell? ⟨g,o,none⟩=w.cell? ⟨g,o,none⟩:=fun o=>hW.2.1.cell (p:=⟨g,o,none⟩) hg
  rw [up,up,up]
  exact ⟨hc _ _ (ybs vlC (m:=3) (fun _=>rfl) c.vals i 0 x _ hx rfl),hc _ _ (ybs vlC (m:=3) (fun _=>rfl) c.vals i 1 x _ hx rfl),hc _ _ (ybs vlC (m:=3) (fun _=>rfl) c.vals i 2 x _ hx rfl)⟩)
 have g3:=yae (show 0 < c.fields.length→∃ g o,a3=some ⟨g,o,none⟩∧∀ W,HeldC w c (.slice a1 c.cols.length c1) (.slice a2 c.vals.length c2) (.slice a3 c.fields.length c3) (.slice a4 c.expr.args.length c4) (.slice a5 c.wh.args.length c5) W→∀ i x,c.fields[i]?=some x→W.cell? ⟨g,o+i,none⟩=some (.string ⟨x.toArray⟩) by
  intro h0
  obtain ⟨g,o,e,hg,hc⟩:=h3 h0
  refine ⟨g,o,e,fun W hW i x hx=>?_⟩
  have up:∀ o,W.cell? ⟨g,o,none⟩=w.cell? ⟨g,o,none⟩:=fun o=>hW.2.1.cell (p:=⟨g,o,none⟩) hg
  rw [up]
  have:=ybs stC (m:=1) (fun _=>rfl) c.fields i 0 x _ hx rfl
  rw [Nat.mul_one] at this
  exact hc _ _ this)
 have p1:=yae (fun (W:World) (hW:HeldC w c (.slice a1 c.cols.length c1) (.slice a2 c.vals.length c2) (.slice a3 c.fields.length c3) (.slice a4 c.expr.args.length c4) (.slice a5 c.wh.args.length c5) W)=>(yfu _ c.expr _ w (Nat.le_refl _) hi.expr hf.expr 15 (Nat.le_refl _) W hW.2.1).mono fun e w' q=>(⟨q.1,hW.below q.2⟩:_∧HeldC w c (.slice a1 c.cols.length c1) (.slice a2 c.vals.length c2) (.slice a3 c.fields.length c3) (.slice a4 c.expr.args.length c4) (.slice a5 c.wh.args.length c5) w'))
 have p2:=yae (fun (W:World) (hW:HeldC w c (.slice a1 c.cols.length c1) (.slice a2 c.vals.length c2) (.slice a3 c.fields.length c3) (.slice a4 c.expr.args.length c4) (.slice a5 c.wh.args.length c5) W)=>(yfu _ c.wh _ w (Nat.le_refl _) hi.wh hf.wh 15 (Nat.le_refl _) W hW.2.1).mono fun e w' q=>(⟨q.1,hW.below q.2⟩:_∧HeldC w c (.slice a1 c.cols.length c1) (.slice a2 c.vals.length c2) (.slice a3 c.fields.length c3) (.slice a4 c.expr.args.length c4) (.slice a5 c.wh.args.length c5) w'))
 have HF:=yae hf
 clear hi h1 h2 h3 hf
 unfold cmL
 go_enter Tryz.func13,Tryz.ntmps13
 go_upto_region 1 with fail
 rename_i K1 hK1 K2 hK2
 refine ydd k1_R (by kernel_rfl) ?_
 refine ytS (c:=c) (b:=w.heap.size) (a1:=a1) (a2:=a2) (a3:=a3) (a4:=a4) (a5:=a5) (c1:=c1) (c2:=c2) (c3:=c3) (c4:=c4) (c5:=c5) rfl K.out.cell p1.out p2.out rfl H0.out ?_
 intro x w1 hS1 hd hz hn ho
 refine hK2 _ _ ?_
 refine wp_cond_split (t:=ybQ c) ((ycn (hn 27 35 rfl)).trans (congrArg Value.bool (yrg c))) (fun ht=>?_) (fun ht=>?_)
 ·refine wp_seq ?_
  refine ydd k2_R (by kernel_rfl) ?_
  refine yt3 hz hS1 ?_
  intro y w2 hS2 hd2 _ hn2 _
  refine wp_ret ?_
  show bodyPost Tryz.prog Tryz.f13 (fun e w'=>e=.returned (.int .i64 (yeb (ybQ c) (yeJ c)))∧Below w.heap.size w w') .ret y w2
  refine yfx (v:=.int .i64 2) rfl (hd2.trans hd) (hn2 0 2 rfl) ?_
  rw [ht]
  exact ⟨rfl,hS2.2.1⟩
 ·refine wp_skip ?_
  refine hK1 _ _ ?_
  refine yux (y:=cT0) (by kernel_rfl) ?_
  refine st0 K.out HF.out g1.out g2.out g3.out hz hd ((ho 1 (by decide)).trans rfl) hS1 ?_
  intro w' hS'
  rw [ht,yqv]
  refine ⟨?_,hS'.2.1⟩
  unfold yjz yeb
  simp
theorem yff {α:Type} (f:α→List (List UInt8)):∀ (l:List α) (x:α),l≠[]→yaq f (l++[x])=yaq f l++([[44]]++f x)
 | [],_,h=>absurd rfl h
 | [y],x,_=>by simp [yaq]
 | y::z::r,x,_=>by
  have:=yff f (z::r) x (by simp)
  rw [List.cons_append,List.cons_append,yaq,← List.cons_append,this,yaq]
  simp
theorem ycX {α:Type} (f:α→List (List UInt8)) (l:List α) (k:Nat) (x:α) (h:l[k]?=some x):yaq f (l.take (k+1))=yaq f (l.take k)++((if k=0 then [] else [[44]])++f x):=by
 rw [List.take_add_one,h]
 by_cases h0:k=0
 ·subst h0;simp [yaq]
 ·rw [if_neg h0]
  refine yff f _ x ?_
  intro e
  have h1:=congrArg List.length e
  have h2:=(List.getElem?_eq_some_iff.1 h).1
  rw [List.length_take,List.length_nil] at h1
  omega
theorem yfe {α:Type} (f:α→List (List UInt8)) (l:List α) (k:Nat):∃ r,yaq f l=yaq f (l.take k)++r:=by
 by_cases hk:l.length≤k
 ·exact ⟨[],by rw [List.take_of_length_le hk];simp⟩
 ·induction hd:l.length - k generalizing k with
  | zero=>omega
  | succ d ih =>
   obtain ⟨x,hx⟩:∃ x,l[k]?=some x:=⟨l[k]'(by omega),List.getElem?_eq_getElem (by omega)⟩
   by_cases h2:l.length≤k+1
   ·have:=ycX f l k x hx
    rw [List.take_of_length_le h2] at this
    exact ⟨_,this⟩
   ·obtain ⟨r,hr⟩:=ih (k+1) h2 (by omega)
    rw [ycX f l k x hx] at hr
    exact ⟨_,by rw [hr,List.append_assoc]⟩
theorem ygF {B b:Nat} {Tb:World→Prop} {w0:World} {ws:List (List UInt8)} {W:World} (k:ItoaOk B Tb) (h:PSt B b Tb w0 ws W) (x:Cl) (h1:x.name≠[]) (h2:atL yaI x.ty≠[]) (hlen:(yaz (ws++ya8 x)).length≤1000000) :
  Calls Tryz.prog 96 #[.pointer (some ⟨b,0,none⟩),.agg #[.string ⟨x.name.toArray⟩,.int .i64 x.ty]] W (ybb B b Tb w0 (ws++ya8 x) W) :=
 (yiM B b ws x.name x.ty W h.pr h.hB h1 h2 hlen).mono fun _ _ q=>h.step k q
theorem ykx {B b:Nat} {Tb:World→Prop} {w0:World} (k:ItoaOk B Tb) (l:List Cl) (g o ca:Nat) (hg:g < B) (hrow:∀ i x,l[i]?=some x→w0.cell? ⟨g,o+i*2,none⟩=some (.string ⟨x.name.toArray⟩)∧w0.cell? ⟨g,o+i*2+1,none⟩=some (.int .i64 x.ty)) (hok:∀ x ∈ l,x.name≠[]∧atL yaI x.ty≠[]) (hn:l.length≤1000)
  (ws:List (List UInt8)) (W:World) (hS:PSt B b Tb w0 ws W) (hlen:(yaz (ws++yaq ya8 l)).length≤1000000) :
  Calls Tryz.prog 134 #[.pointer (some ⟨b,0,none⟩),.slice (some ⟨g,o,none⟩) l.length ca,.func (.func 96) #[.pointer (some ⟨b,0,none⟩)] #[]] W (ybb B b Tb w0 (ws++yaq ya8 l) W):=by
 have HS:=yae hS
 have HROW:=yae hrow
 have HOK:=yae hok
 have HLEN:=yae hlen
 have K:=yae k
 clear hS hrow hok hlen k
 go_enter Tryz.func134,Tryz.ntmps134
 go_wp2
 go_loopw [6,7,10] (fun _ _ i wl=>∃ j:Nat,j≤l.length∧i=.int .i64 (j:Int)∧Hid (PSt B b Tb w0 (ws++yaq ya8 (l.take j)) wl)∧Hid (Lib.OthersKept 5 (some b) W wl)) (fun _ _ i _=>l.length - (intOf i).toNat)
 case atStart=>exact ⟨0,Nat.zero_le _,rfl,by simpa [yaq] using HS,Lib.OthersKept.refl _ _ _⟩
 case round =>
  obtain ⟨j,hj,rfl,R,HO⟩:=hrel
  by_cases hlt:j < l.length
  ·obtain ⟨x,hx⟩:∃ x,l[j]?=some x:=⟨l[j]'hlt,List.getElem?_eq_getElem hlt⟩
   have hlt':(j:Int) < (l.length:Int):=by omega
   have up:∀ q,wr.cell? ⟨g,q,none⟩=w0.cell? ⟨g,q,none⟩:=fun q=>R.out.bel.cell (p:=⟨g,q,none⟩) hg
   have e0:=(up _).trans (HROW.out j x hx).1
   have e1:=(up _).trans (HROW.out j x hx).2
   have hbw:b < wr.heap.size:=R.out.pr.lt
   have hxo:=HOK.out x (List.mem_of_getElem? hx)
   have ht:=ycX ya8 l j x hx
   have hle:(yaz (ws++yaq ya8 (l.take (j+1)))).length≤1000000:=by
    obtain ⟨r,hr⟩:=yfe ya8 l (j+1)
    refine Nat.le_trans (yaM _ r) ?_
    rw [List.append_assoc,← hr];exact HLEN.out
   have b0:=(Below.refl wr.heap.size wr).alloc (Nat.le_refl _) (.cells #[.string ⟨x.name.toArray⟩,.int .i64 x.ty] 56)
   by_cases h0:j=0
   ·rw [if_pos h0,List.nil_append] at ht
    rw [ht,← List.append_assoc] at hle
    have hq:=yae (ygF K.out (R.out.below K.out b0) x hxo.1 hxo.2 hle)
    have h0':¬ ((0:Int) < (j:Int)):=by omega
    have HT:=yae ht
    have B0:=yae b0
    clear hx up ht hle b0 hxo h0
    go_wp2_with (go_at_call 96;refine hq.out.mono ?_;rintro e w2 ⟨rfl,s2,o2⟩)
    go_roundw
    case rel=>exact ⟨j+1,by omega,by go_num,by rw [HT.out,← List.append_assoc];exact s2,fun q ob hq hne hty=>o2 q ob (yao (b:=b) B0.out q ob (HO.out q ob hq hne hty) hne hty) hne hty⟩
    case measure=>simp [intOf];omega
   ·rw [if_neg h0] at ht
    rw [ht,← List.append_assoc,← List.append_assoc] at hle
    have hp:=yae (ycP K.out R.out (.cells #[.string ⟨x.name.toArray⟩,.int .i64 x.ty] 56) [[44]] 1 #[.string ⟨#[44]⟩] rfl rfl (by intro x hx;simp at hx;subst hx;decide) (Nat.le_trans (yaM _ (ya8 x)) hle) (by decide))
    have hq:=yae (fun w1 (s1:PSt B b Tb w0 (ws++yaq ya8 (l.take j)++[[44]]) w1)=>ygF K.out s1 x hxo.1 hxo.2 hle)
    have h0':((0:Int) < (j:Int)):=by omega
    have HT:=yae ht
    have B0:=yae b0
    clear hx up ht hle b0 hxo h0
    go_wp2_with fail
    refine hp.out.mono ?_
    rintro e w1 ⟨rfl,s1,o1⟩
    have kb:=o1 _ _ (heap_alloc_new wr _) (by simp;omega) (by intro c f e;cases e)
    have d0:w1.cell? ⟨wr.heap.size,0,none⟩=some (.string ⟨x.name.toArray⟩):=by rw [Lib.cell_of_heap kb];rfl
    have d1:w1.cell? ⟨wr.heap.size,1,none⟩=some (.int .i64 x.ty):=by rw [Lib.cell_of_heap kb];rfl
    have HQ:=yae (hq.out w1 s1)
    have O1:=yae o1
    clear kb s1 o1 hp hq
    go_wp2_with (go_at_call 96;refine HQ.out.mono ?_;rintro e w2 ⟨rfl,s2,o2⟩)
    go_roundw
    case rel=>exact ⟨j+1,by omega,by go_num,by rw [HT.out,← List.append_assoc,← List.append_assoc];exact s2,fun q ob hq hne hty=>o2 q ob (O1.out q ob (yao (b:=b) B0.out q ob (HO.out q ob hq hne hty) hne hty) hne hty) hne hty⟩
    case measure=>simp [intOf];omega
  ·have hlt':¬ ((j:Int) < (l.length:Int)):=by omega
   go_wp2
   go_end0
   have e:l.take j=l:=List.take_of_length_le (by omega)
   refine ⟨rfl, ?_,HO.out⟩
   have:=R.out
   rwa [e] at this
end Go.Proofs.YtkpeklealgicpabGreatDoor
