/-
  The small predicates of package token and the walk over bytes 'span', at every input: each answers its plain function and leaves the world as it was.
  'span' of package token, at every text, place within it and each of the four function values that the program hands it: it answers the place where the bytes end of which it goes on, and leaves the world as it was.
  The contracts of the library functions that this program calls, stated at its own numbers.
  'next' of package token.
  'longest' and 'fault' of package token.
  The plain function that scanning comes to, over lists of bytes, and its small laws; what 'fault' answers, in its words.
  'Scan' of package token.
  The writers of strings.Builder over this program: what each leaves of the builder, and of all blocks that are neither the builder's nor rows of bytes.
  'Scan' and 'alone' of package token, at every input.
  'Join' of package token.
-/
import Derived.Test.YtkpeklealgicpabGreatDoorRows
import Derived.WalkKit
import Derived.WalkSpells
import Derived.WalkLawsBesides
import Derived.Shelf.Strings.Builder1
import Derived.Shelf.Small.Strs
import Derived.Shelf.Small.Wraps
import Derived.Shelf.Strings.BuilderF
import Derived.Shelf.Strings.BuilderK
import Derived.Shelf.Strconv.Atoi
import Derived.Shelf.Strconv.Itoa0
import Derived.Shelf.Strconv.Itoa1
import Derived.Shelf.LaysM
import Derived.Shelf.Strconv.Itoa2
import Derived.Shelf.Strconv.Itoa3
import Derived.Shelf.Strconv.AtoiErrFast
import Derived.Shelf.Strconv.ParseIntEmpty
import Derived.Shelf.Strconv.AtoiFail
import Derived.Shelf.Strconv.Clone
import Derived.Shelf.Strconv.SyntaxError
import Derived.Shelf.LaysC
import Derived.Shelf.Strconv.ToError
import Derived.Shelf.Strconv.Lower
import Derived.Shelf.Strconv.ParseUint10
import Derived.Shelf.Strconv.ParseUint10Empty
import Derived.Shelf.Strconv.ParseUint10Any
import Derived.Shelf.Strconv.ParseInt10
import Derived.Shelf.Strconv.AtoiLong
import Derived.Shelf.Strconv.AtoiInnerAll
import Derived.Shelf.Strconv.RangeError
import Derived.Shelf.Strconv.ToErrorRange
import Derived.Shelf.Strconv.AtoiAll
import Derived.Shelf.Strconv.ErrVarAll
import Derived.Shelf.Strings.Search1
import Derived.Shelf.Strings.Search2
import Derived.Shelf.Strings.Search3
import Derived.Shelf.Strings.Shaped
import Derived.Shelf.Strings.Prefix
import Derived.Test.YtkpeklealgicpabGreatDoorProg
import Derived.Deep.QuietTactic
import Derived.BigQuiet
import Derived.Lib.OthersKept
import Derived.Laws.StructEq

set_option maxRecDepth 100000
set_option maxHeartbeats 8000000
namespace Go.Proofs.YtkpeklealgicpabGreatDoor
open Go.RowKit
theorem ltS {α : Type} {xs : Array α} {i : Nat} {a : α} (h : xs[i]? = some a) : i < xs.size := (Array.getElem?_eq_some_iff.1 h).1
abbrev nl : Value := .slice none 0 0
def isL (c:UInt8):Bool:=decide ((97:Int)≤(c.toNat:Int))&&decide ((c.toNat:Int)≤122)
def isD (c:UInt8):Bool:=decide ((48:Int)≤(c.toNat:Int))&&decide ((c.toNat:Int)≤57)
def isW (c:UInt8):Bool:=isL c || isD c
def isQ (c:UInt8):Bool:=decide ((32:Int)≤(c.toNat:Int))&&decide ((c.toNat:Int)≤126)&&((c.toNat:Int) != 39)
def isB (c:UInt8):Bool:=((c.toNat:Int) == 32) || ((c.toNat:Int) == 9) || ((c.toNat:Int) == 10)
theorem yaF {a b:Bool} (h:a=b):Ending.returned (.bool a)=.returned (.bool b):=by rw [h]
theorem ycA {k:IntKind} {a b:Int} (h:a=b):Ending.returned (.int k a)=.returned (.int k b):=by rw [h]
theorem yeG (c:UInt8) (w:World) :
  Calls Tryz.prog 86 #[.int .u8 (c.toNat:Int)] w fun e w'=>e=.returned (.bool (isL c))∧w'=w:=by
 go_enter Tryz.func86,Tryz.ntmps86
 go_wp2
 all_goals go_ret
 all_goals exact ⟨yaF (by simp [isL, *] <;> omega),rfl⟩
theorem ydy (c:UInt8) (w:World) :
  Calls Tryz.prog 88 #[.int .u8 (c.toNat:Int)] w fun e w'=>e=.returned (.bool (isD c))∧w'=w:=by
 go_enter Tryz.func88,Tryz.ntmps88
 go_wp2
 all_goals go_ret
 all_goals exact ⟨yaF (by simp [isD, *] <;> omega),rfl⟩
theorem yhr (c:UInt8) (w:World) :
  Calls Tryz.prog 38 #[.int .u8 (c.toNat:Int)] w fun e w'=>e=.returned (.bool (isB c))∧w'=w:=by
 go_enter Tryz.func38,Tryz.ntmps38
 go_wp2
 all_goals go_ret
 all_goals exact ⟨yaF (by simp [isB, *]),rfl⟩
theorem yjx (c:UInt8) (w:World) :
  Calls Tryz.prog 87 #[.int .u8 (c.toNat:Int)] w fun e w'=>e=.returned (.bool (isW c))∧w'=w:=by
 cases hL:isL c
 ·have HL:Hid (isL c=false):=hL
  have h1:=yeG c
  rw [hL] at h1
  clear hL
  go_enter Tryz.func87,Tryz.ntmps87
  go_wp2_with (first|(go_at_call 86;refine (h1 _).mono ?_;rintro e w' ⟨rfl,rfl⟩)|(go_at_call 88;refine (ydy _ _).mono ?_;rintro e w' ⟨rfl,rfl⟩))
  go_ret
  exact ⟨yaF (by simp [isW,HL.out]),rfl⟩
 ·have HL:Hid (isL c=true):=hL
  have h1:=yeG c
  rw [hL] at h1
  clear hL
  go_enter Tryz.func87,Tryz.ntmps87
  go_wp2_with (first|(go_at_call 86;refine (h1 _).mono ?_;rintro e w' ⟨rfl,rfl⟩)|(go_at_call 88;refine (ydy _ _).mono ?_;rintro e w' ⟨rfl,rfl⟩))
  go_ret
  exact ⟨yaF (by simp [isW,HL.out]),rfl⟩
theorem yjn (c:UInt8) (w:World) :
  Calls Tryz.prog 89 #[.int .u8 (c.toNat:Int)] w fun e w'=>e=.returned (.bool (isQ c))∧w'=w:=by
 go_enter Tryz.func89,Tryz.ntmps89
 go_wp2
 all_goals go_ret
 all_goals exact ⟨yaF (by simp [isQ, *] <;> omega),rfl⟩
def ycN (p:UInt8→Bool) (l:List UInt8):Nat:=(l.takeWhile p).length
theorem ygJ (p:UInt8→Bool) (l:List UInt8):ycN p l≤l.length:=by
 unfold ycN;exact (List.takeWhile_sublist p).length_le
theorem yby (p:UInt8→Bool) (c:UInt8) (l:List UInt8):ycN p (c::l)=if p c=true then ycN p l+1 else 0:=by
 unfold ycN;rw [List.takeWhile_cons];split <;> simp
def yav (p:UInt8→Bool) (s:ByteArray) (a:Nat):Nat:=a+ycN p (s.data.toList.drop a)
theorem ydl (s:ByteArray) (k:Nat) (h:k < s.size):s.data.toList.drop k=s[k]::s.data.toList.drop (k+1):=by
 rw [List.drop_eq_getElem_cons (by simpa using h)];rfl
theorem yb2 (p:UInt8→Bool) (s:ByteArray) (k:Nat) (h:k < s.size) (hp:p s[k]=true):yav p s k=yav p s (k+1):=by
 unfold yav;rw [ydl s k h,yby,if_pos hp];omega
theorem yc9 (p:UInt8→Bool) (s:ByteArray) (k:Nat) (h:k < s.size) (hp:p s[k]=false):yav p s k=k:=by
 unfold yav;rw [ydl s k h,yby,if_neg (by simp [hp])];omega
theorem ycM (p:UInt8→Bool) (s:ByteArray) (k:Nat) (h:¬ k < s.size):yav p s k=k:=by
 unfold yav;rw [List.drop_eq_nil_of_le (by simp;omega)];simp [ycN]
theorem ycV (p:UInt8→Bool) (s:ByteArray) (k:Nat):k≤yav p s k:=by unfold yav;omega
theorem ye8 (p:UInt8→Bool) (s:ByteArray) (k:Nat) (h:k≤s.size):yav p s k≤s.size:=by
 unfold yav;have:=ygJ p (s.data.toList.drop k);simp at this;omega
theorem ygo (s:ByteArray) (a:Nat) (w:World) (hs:s.size≤9223372036854775000) (ha:a≤s.size) :
  Calls Tryz.prog 37 #[.string s,.int .i64 (a:Int),.func (.func 38) #[] #[]] w fun e w'=>e=.returned (.int .i64 (yav isB s a:Nat))∧w'=w:=by
 go_enter Tryz.func37,Tryz.ntmps37
 go_wp2
 go_loop [1] (fun i=>∃ k:Nat,k≤s.size∧i=.int .i64 k∧Hid (yav isB s k=yav isB s a)) (fun i=>s.size - (intOf i).toNat)
 case atStart=>exact ⟨a,ha,rfl,rfl⟩
 case round =>
  obtain ⟨k,hk,rfl,hE⟩:=hrel
  by_cases hlt:k < s.size
  ·cases hp:isB s[k]
   ·have hend:=yc9 isB s k hlt hp
    have h1:=yhr s[k]
    rw [hp] at h1
    rw [hE.out] at hend
    have HE:Hid (yav isB s a=k):=hend
    clear hend hE hp
    go_wp2_with (go_at_call 38;refine (h1 _).mono ?_;rintro e w' ⟨rfl,rfl⟩)
    go_ret
    exact ⟨ycA (by rw [HE.out]),rfl⟩
   ·have hend:=yb2 isB s k hlt hp
    have h1:=yhr s[k]
    rw [hp] at h1
    rw [hE.out] at hend
    have HE:Hid (yav isB s (k+1)=yav isB s a):=hend.symm
    clear hend hE hp
    go_wp2_with (go_at_call 38;refine (h1 _).mono ?_;rintro e w' ⟨rfl,rfl⟩)
    go_round
    case rel=>exact ⟨k+1,by omega,by go_num,HE⟩
    case measure=>simp [intOf];omega
  ·have hend:=ycM isB s k hlt
   rw [hE.out] at hend
   have HE:Hid (yav isB s a=k):=hend
   clear hend hE
   go_wp2
   go_ret
   exact ⟨ycA (by rw [HE.out]),rfl⟩
theorem ynw (s:ByteArray) (a:Nat) (w:World) (hs:s.size≤9223372036854775000) (ha:a≤s.size) :
  Calls Tryz.prog 37 #[.string s,.int .i64 (a:Int),.func (.func 87) #[] #[]] w fun e w'=>e=.returned (.int .i64 (yav isW s a:Nat))∧w'=w:=by
 go_enter Tryz.func37,Tryz.ntmps37
 go_wp2
 go_loop [1] (fun i=>∃ k:Nat,k≤s.size∧i=.int .i64 k∧Hid (yav isW s k=yav isW s a)) (fun i=>s.size - (intOf i).toNat)
 case atStart=>exact ⟨a,ha,rfl,rfl⟩
 case round =>
  obtain ⟨k,hk,rfl,hE⟩:=hrel
  by_cases hlt:k < s.size
  ·cases hp:isW s[k]
   ·have hend:=yc9 isW s k hlt hp
    have h1:=yjx s[k]
    rw [hp] at h1
    rw [hE.out] at hend
    have HE:Hid (yav isW s a=k):=hend
    clear hend hE hp
    go_wp2_with (go_at_call 87;refine (h1 _).mono ?_;rintro e w' ⟨rfl,rfl⟩)
    go_ret
    exact ⟨ycA (by rw [HE.out]),rfl⟩
   ·have hend:=yb2 isW s k hlt hp
    have h1:=yjx s[k]
    rw [hp] at h1
    rw [hE.out] at hend
    have HE:Hid (yav isW s (k+1)=yav isW s a):=hend.symm
    clear hend hE hp
    go_wp2_with (go_at_call 87;refine (h1 _).mono ?_;rintro e w' ⟨rfl,rfl⟩)
    go_round
    case rel=>exact ⟨k+1,by omega,by go_num,HE⟩
    case measure=>simp [intOf];omega
  ·have hend:=ycM isW s k hlt
   rw [hE.out] at hend
   have HE:Hid (yav isW s a=k):=hend
   clear hend hE
   go_wp2
   go_ret
   exact ⟨ycA (by rw [HE.out]),rfl⟩
theorem ykQ (s:ByteArray) (a:Nat) (w:World) (hs:s.size≤9223372036854775000) (ha:a≤s.size) :
  Calls Tryz.prog 37 #[.string s,.int .i64 (a:Int),.func (.func 88) #[] #[]] w fun e w'=>e=.returned (.int .i64 (yav isD s a:Nat))∧w'=w:=by
 go_enter Tryz.func37,Tryz.ntmps37
 go_wp2
 go_loop [1] (fun i=>∃ k:Nat,k≤s.size∧i=.int .i64 k∧Hid (yav isD s k=yav isD s a)) (fun i=>s.size - (intOf i).toNat)
 case atStart=>exact ⟨a,ha,rfl,rfl⟩
 case round =>
  obtain ⟨k,hk,rfl,hE⟩:=hrel
  by_cases hlt:k < s.size
  ·cases hp:isD s[k]
   ·have hend:=yc9 isD s k hlt hp
    have h1:=ydy s[k]
    rw [hp] at h1
    rw [hE.out] at hend
    have HE:Hid (yav isD s a=k):=hend
    clear hend hE hp
    go_wp2_with (go_at_call 88;refine (h1 _).mono ?_;rintro e w' ⟨rfl,rfl⟩)
    go_ret
    exact ⟨ycA (by rw [HE.out]),rfl⟩
   ·have hend:=yb2 isD s k hlt hp
    have h1:=ydy s[k]
    rw [hp] at h1
    rw [hE.out] at hend
    have HE:Hid (yav isD s (k+1)=yav isD s a):=hend.symm
    clear hend hE hp
    go_wp2_with (go_at_call 88;refine (h1 _).mono ?_;rintro e w' ⟨rfl,rfl⟩)
    go_round
    case rel=>exact ⟨k+1,by omega,by go_num,HE⟩
    case measure=>simp [intOf];omega
  ·have hend:=ycM isD s k hlt
   rw [hE.out] at hend
   have HE:Hid (yav isD s a=k):=hend
   clear hend hE
   go_wp2
   go_ret
   exact ⟨ycA (by rw [HE.out]),rfl⟩
theorem ynv (s:ByteArray) (a:Nat) (w:World) (hs:s.size≤9223372036854775000) (ha:a≤s.size) :
  Calls Tryz.prog 37 #[.string s,.int .i64 (a:Int),.func (.func 89) #[] #[]] w fun e w'=>e=.returned (.int .i64 (yav isQ s a:Nat))∧w'=w:=by
 go_enter Tryz.func37,Tryz.ntmps37
 go_wp2
 go_loop [1] (fun i=>∃ k:Nat,k≤s.size∧i=.int .i64 k∧Hid (yav isQ s k=yav isQ s a)) (fun i=>s.size - (intOf i).toNat)
 case atStart=>exact ⟨a,ha,rfl,rfl⟩
 case round =>
  obtain ⟨k,hk,rfl,hE⟩:=hrel
  by_cases hlt:k < s.size
  ·cases hp:isQ s[k]
   ·have hend:=yc9 isQ s k hlt hp
    have h1:=yjn s[k]
    rw [hp] at h1
    rw [hE.out] at hend
    have HE:Hid (yav isQ s a=k):=hend
    clear hend hE hp
    go_wp2_with (go_at_call 89;refine (h1 _).mono ?_;rintro e w' ⟨rfl,rfl⟩)
    go_ret
    exact ⟨ycA (by rw [HE.out]),rfl⟩
   ·have hend:=yb2 isQ s k hlt hp
    have h1:=yjn s[k]
    rw [hp] at h1
    rw [hE.out] at hend
    have HE:Hid (yav isQ s (k+1)=yav isQ s a):=hend.symm
    clear hend hE hp
    go_wp2_with (go_at_call 89;refine (h1 _).mono ?_;rintro e w' ⟨rfl,rfl⟩)
    go_round
    case rel=>exact ⟨k+1,by omega,by go_num,HE⟩
    case measure=>simp [intOf];omega
  ·have hend:=ycM isQ s k hlt
   rw [hE.out] at hend
   have HE:Hid (yav isQ s a=k):=hend
   clear hend hE
   go_wp2
   go_ret
   exact ⟨ycA (by rw [HE.out]),rfl⟩
end Go.Proofs.YtkpeklealgicpabGreatDoor
namespace Go.Proofs
open Go.Shelf
def Tryz.lays170_ren : Go.Shelf.Ren := ⟨fun | 170 => 44 | n => n, fun | 70 => 68 | 3 => 3 | 0 => 0 | 72 => 71 | 37 => 69 | 5 => 5 | n => n, fun | n => n⟩
theorem Tryz.lays170 : Go.Proofs.Lays.n170 Tryz.prog Tryz.lays170_ren := {
  mixed := by kernel_rfl
  f170 := Tryz.func44.trans (congrArg some (by kernel_rfl))
  t0 := Tryz.underlying0
  a0 := Tryz.isAgg0
  z0 := Tryz.sizeOf0
  v0 := Tryz.zeroValue0
  t3 := Tryz.underlying3
  a3 := Tryz.isAgg3
  z3 := Tryz.sizeOf3
  v3 := Tryz.zeroValue3
  t37 := Tryz.underlying69
  a37 := Tryz.isAgg69
  z37 := Tryz.sizeOf69
  v37 := Tryz.zeroValue69
  t70 := Tryz.underlying68
  a70 := Tryz.isAgg68
  z70 := Tryz.sizeOf68
  v70 := Tryz.zeroValue68
  t72 := Tryz.underlying71
  a72 := Tryz.isAgg71
  z72 := Tryz.sizeOf71
  v72 := Tryz.zeroValue71 }
open Go.RowKit in
theorem Tryz.Builder_Len (B b : Nat) (bs : List Value) (w : World) (h : Lib.IsBuilder 71 5 B b bs w) :
    Calls Tryz.prog 44 #[.pointer (some ⟨b, 0, none⟩)] w fun e w' => e = .returned (.int .i64 bs.length) ∧ w' = w := Any.Builder_Len Tryz.lays170 B b bs w h
def Tryz.lays169_ren : Go.Shelf.Ren := ⟨fun | 169 => 45 | n => n, fun | 70 => 68 | 9 => 9 | 0 => 0 | 72 => 71 | 37 => 69 | 127 => 116 | 3 => 3 | 5 => 5 | n => n, fun | n => n⟩
theorem Tryz.lays169 : Go.Proofs.Lays.n169 Tryz.prog Tryz.lays169_ren := {
  mixed := by kernel_rfl
  f169 := Tryz.func45.trans (congrArg some (by kernel_rfl))
  t0 := Tryz.underlying0
  a0 := Tryz.isAgg0
  z0 := Tryz.sizeOf0
  v0 := Tryz.zeroValue0
  t3 := Tryz.underlying3
  a3 := Tryz.isAgg3
  z3 := Tryz.sizeOf3
  v3 := Tryz.zeroValue3
  t9 := Tryz.underlying9
  a9 := Tryz.isAgg9
  z9 := Tryz.sizeOf9
  v9 := Tryz.zeroValue9
  t37 := Tryz.underlying69
  a37 := Tryz.isAgg69
  z37 := Tryz.sizeOf69
  v37 := Tryz.zeroValue69
  t70 := Tryz.underlying68
  a70 := Tryz.isAgg68
  z70 := Tryz.sizeOf68
  v70 := Tryz.zeroValue68
  t72 := Tryz.underlying71
  a72 := Tryz.isAgg71
  z72 := Tryz.sizeOf71
  v72 := Tryz.zeroValue71
  t127 := Tryz.underlying116
  a127 := Tryz.isAgg116
  z127 := Tryz.sizeOf116
  v127 := Tryz.zeroValue116 }
theorem Tryz.Builder_Extra_169 : Builder.Extra Tryz.prog Tryz.lays169_ren := {
  sizeBuilder := by kernel_rfl
  liesBuilder := by kernel_rfl
  t5 := Tryz.underlying5
  a5 := Tryz.isAgg5
  z5 := Tryz.sizeOf5
  v5 := Tryz.zeroValue5
  infoByte := by kernel_rfl
  cellsByte := by kernel_rfl
  sizeByte := by kernel_rfl
  neB5 := by decide }
open Go.RowKit in
theorem Tryz.Builder_String_any (B b : Nat) (l : List UInt8) (w : World) (h : Lib.IsBuilder 71 5 B b (Lib.byteCells l) w) (hBw : B ≤ w.heap.size) :
    Calls Tryz.prog 45 #[.pointer (some ⟨b, 0, none⟩)] w fun e w' => e = .returned (.string ⟨l.toArray⟩) ∧ Below B w w' := Any.Builder_String_any Tryz.lays169 Tryz.Builder_Extra_169 B b l w h hBw
def Tryz.lays137_ren : Go.Shelf.Ren := ⟨fun | 137 => 91 | 217 => 132 | 266 => 165 | n => n, fun | 9 => 9 | 5 => 5 | 3 => 3 | n => n, fun | n => n⟩
theorem Tryz.lays137 : Go.Proofs.Lays.n137 Tryz.prog Tryz.lays137_ren := {
  mixed := by kernel_rfl
  f137 := Tryz.func91.trans (congrArg some (by kernel_rfl))
  f217 := Tryz.func132.trans (congrArg some (by kernel_rfl))
  f266 := Tryz.func165.trans (congrArg some (by kernel_rfl))
  t3 := Tryz.underlying3
  a3 := Tryz.isAgg3
  z3 := Tryz.sizeOf3
  v3 := Tryz.zeroValue3
  t5 := Tryz.underlying5
  a5 := Tryz.isAgg5
  z5 := Tryz.sizeOf5
  v5 := Tryz.zeroValue5
  t9 := Tryz.underlying9
  a9 := Tryz.isAgg9
  z9 := Tryz.sizeOf9
  v9 := Tryz.zeroValue9 }
open Go.RowKit in
theorem Tryz.strings_IndexByte (s : ByteArray) (c : Int) (w : World) :
    Calls Tryz.prog 91 #[.string s, .int .u8 c] w fun e w' => e = .returned (.int .i64 (Lib.indexByte s.data.toList c.toNat.toUInt8)) ∧ w' = w := Any.strings_IndexByte Tryz.lays137 s c w
def Tryz.lays172_ren : Go.Shelf.Ren := ⟨fun | 172 => 174 | 244 => 182 | 245 => 183 | 247 => 192 | 279 => 193 | 280 => 194 | 281 => 195 | 282 => 196 | 287 => 203 | 316 => 204 | 171 => 136 | 205 => 205 | 321 => 208 | 322 => 209 | 243 => 166 | 246 => 179 | 283 => 187 | 284 => 188 | 285 => 189 | 286 => 190 | 129 => 199 | 317 => 198 | 318 => 200 | 319 => 201 | 320 => 202 | 337 => 206 | 338 => 207 | n => n, fun | 9 => 9 | 3 => 3 | 75 => 74 | 76 => 76 | 4 => 4 | 5 => 5 | 167 => 164 | 37 => 69 | 0 => 0 | 85 => 165 | 2 => 2 | 168 => 167 | 53 => 159 | 175 => 177 | 46 => 157 | 210 => 181 | 127 => 116 | 145 => 187 | 143 => 185 | 21 => 21 | 171 => 158 | 173 => 162 | 212 => 174 | 51 => 170 | 20 => 20 | 213 => 175 | 232 => 188 | 233 => 189 | 80 => 78 | n => n, fun | 15 => 2 | 16 => 3 | 17 => 1 | 18 => 4 | 19 => 5 | n => n⟩
def Tryz.laysM246_ren : Go.Shelf.Ren := ⟨fun | 246 => 179 | 283 => 187 | 284 => 188 | 285 => 189 | 286 => 190 | 129 => 199 | 317 => 198 | 318 => 200 | 319 => 201 | 320 => 202 | 337 => 206 | 338 => 207 | n => n, fun | 2 => 2 | 3 => 3 | 9 => 9 | 4 => 4 | 171 => 158 | 0 => 0 | 53 => 159 | 37 => 69 | 5 => 5 | 173 => 162 | 212 => 174 | 51 => 170 | 20 => 20 | 213 => 175 | 46 => 157 | 232 => 188 | 233 => 189 | n => n, fun | 17 => 1 | 18 => 4 | 19 => 5 | n => n⟩
def Tryz.laysM243_ren : Go.Shelf.Ren := ⟨fun | 243 => 166 | 246 => 179 | 283 => 187 | 284 => 188 | 285 => 189 | 286 => 190 | 129 => 199 | 317 => 198 | 318 => 200 | 319 => 201 | 320 => 202 | 337 => 206 | 338 => 207 | n => n, fun | 3 => 3 | 9 => 9 | 2 => 2 | 4 => 4 | 171 => 158 | 0 => 0 | 53 => 159 | 37 => 69 | 5 => 5 | 173 => 162 | 212 => 174 | 51 => 170 | 20 => 20 | 213 => 175 | 46 => 157 | 232 => 188 | 233 => 189 | n => n, fun | 17 => 1 | 18 => 4 | 19 => 5 | n => n⟩
def Tryz.laysM171_ren : Go.Shelf.Ren := ⟨fun | 171 => 136 | 243 => 166 | 246 => 179 | 283 => 187 | 284 => 188 | 285 => 189 | 286 => 190 | 129 => 199 | 317 => 198 | 318 => 200 | 319 => 201 | 320 => 202 | 337 => 206 | 338 => 207 | n => n, fun | 3 => 3 | 9 => 9 | 2 => 2 | 4 => 4 | 171 => 158 | 0 => 0 | 53 => 159 | 37 => 69 | 5 => 5 | 173 => 162 | 212 => 174 | 51 => 170 | 20 => 20 | 213 => 175 | 46 => 157 | 232 => 188 | 233 => 189 | n => n, fun | 17 => 1 | 18 => 4 | 19 => 5 | n => n⟩
theorem Tryz.laysM171 : Go.Proofs.LaysM.n171 Tryz.prog Tryz.laysM171_ren := {
  mixed := by kernel_rfl
  f129 := Tryz.func199.trans (congrArg some (by kernel_rfl))
  f171 := Tryz.func136.trans (congrArg some (by kernel_rfl))
  f243 := Tryz.func166.trans (congrArg some (by kernel_rfl))
  f246 := Tryz.func179.trans (congrArg some (by kernel_rfl))
  f283 := Tryz.func187.trans (congrArg some (by kernel_rfl))
  f284 := Tryz.func188.trans (congrArg some (by kernel_rfl))
  f285 := Tryz.func189.trans (congrArg some (by kernel_rfl))
  f286 := Tryz.func190.trans (congrArg some (by kernel_rfl))
  f317 := Tryz.func198.trans (congrArg some (by kernel_rfl))
  f318 := Tryz.func200.trans (congrArg some (by kernel_rfl))
  f319 := Tryz.func201.trans (congrArg some (by kernel_rfl))
  f320 := Tryz.func202.trans (congrArg some (by kernel_rfl))
  f337 := Tryz.func206.trans (congrArg some (by kernel_rfl))
  f338 := Tryz.func207.trans (congrArg some (by kernel_rfl))
  t0 := Tryz.underlying0
  a0 := Tryz.isAgg0
  z0 := Tryz.sizeOf0
  v0 := Tryz.zeroValue0
  t2 := Tryz.underlying2
  a2 := Tryz.isAgg2
  z2 := Tryz.sizeOf2
  v2 := Tryz.zeroValue2
  t3 := Tryz.underlying3
  a3 := Tryz.isAgg3
  z3 := Tryz.sizeOf3
  v3 := Tryz.zeroValue3
  t4 := Tryz.underlying4
  a4 := Tryz.isAgg4
  z4 := Tryz.sizeOf4
  v4 := Tryz.zeroValue4
  t5 := Tryz.underlying5
  a5 := Tryz.isAgg5
  z5 := Tryz.sizeOf5
  v5 := Tryz.zeroValue5
  t9 := Tryz.underlying9
  a9 := Tryz.isAgg9
  z9 := Tryz.sizeOf9
  v9 := Tryz.zeroValue9
  t20 := Tryz.underlying20
  a20 := Tryz.isAgg20
  z20 := Tryz.sizeOf20
  v20 := Tryz.zeroValue20
  t37 := Tryz.underlying69
  a37 := Tryz.isAgg69
  z37 := Tryz.sizeOf69
  v37 := Tryz.zeroValue69
  t46 := Tryz.underlying157
  a46 := Tryz.isAgg157
  z46 := Tryz.sizeOf157
  v46 := Tryz.zeroValue157
  t51 := Tryz.underlying170
  a51 := Tryz.isAgg170
  z51 := Tryz.sizeOf170
  v51 := Tryz.zeroValue170
  t53 := Tryz.underlying159
  a53 := Tryz.isAgg159
  z53 := Tryz.sizeOf159
  v53 := Tryz.zeroValue159
  t171 := Tryz.underlying158
  a171 := Tryz.isAgg158
  z171 := Tryz.sizeOf158
  v171 := Tryz.zeroValue158
  t173 := Tryz.underlying162
  a173 := Tryz.isAgg162
  z173 := Tryz.sizeOf162
  v173 := Tryz.zeroValue162
  t212 := Tryz.underlying174
  a212 := Tryz.isAgg174
  z212 := Tryz.sizeOf174
  v212 := Tryz.zeroValue174
  t213 := Tryz.underlying175
  a213 := Tryz.isAgg175
  z213 := Tryz.sizeOf175
  t232 := Tryz.underlying188
  a232 := Tryz.isAgg188
  z232 := Tryz.sizeOf188
  v232 := Tryz.zeroValue188
  t233 := Tryz.underlying189
  a233 := Tryz.isAgg189
  z233 := Tryz.sizeOf189
  v233 := Tryz.zeroValue189
  g17 := by kernel_rfl
  g18 := by kernel_rfl
  g19 := by kernel_rfl
  i0 := by kernel_rfl
  i2 := by kernel_rfl
  i3 := by kernel_rfl
  i4 := by kernel_rfl
  i5 := by kernel_rfl
  i9 := by kernel_rfl
  i20 := by kernel_rfl
  i37 := by kernel_rfl
  i46 := by kernel_rfl
  i51 := by kernel_rfl
  i53 := by kernel_rfl
  i171 := by kernel_rfl
  i173 := by kernel_rfl
  i212 := by kernel_rfl
  i232 := by kernel_rfl
  i233 := by kernel_rfl
  m17 := by kernel_rfl
  m18 := by kernel_rfl
  m19 := by kernel_rfl }
open Go.RowKit Go.Sort Go.Lib in
theorem Tryz.strconv_Itoa (n : Int) (h0 : -9223372036854775808 ≤ n) (h1 : n ≤ 9223372036854775807) (w : World) (htab : Lib.TabIs Tryz.prog w "internal/strconv.uint64pow10" .u64 Lib.pow10Tab) :
    Calls Tryz.prog 136 #[.int .i64 n] w fun e w' => e = .returned (.string ⟨(Lib.itoa n).toArray⟩) ∧ ∃ k os, w' = grow (w.drewN k) os := Any.strconv_Itoa Tryz.laysM171 n h0 h1 w htab
def Tryz.laysC172_ren : Go.Shelf.Ren := ⟨fun | 172 => 174 | 244 => 182 | 245 => 183 | 247 => 192 | 279 => 193 | 280 => 194 | 281 => 195 | 282 => 196 | 287 => 203 | 316 => 204 | 171 => 136 | 205 => 205 | 321 => 208 | 322 => 209 | 243 => 166 | 246 => 179 | 283 => 187 | 284 => 188 | 285 => 189 | 286 => 190 | 129 => 199 | 317 => 198 | 318 => 200 | 319 => 201 | 320 => 202 | 337 => 206 | 338 => 207 | n => n, fun | 9 => 9 | 3 => 3 | 75 => 74 | 76 => 76 | 4 => 4 | 5 => 5 | 167 => 164 | 37 => 69 | 0 => 0 | 85 => 165 | 2 => 2 | 168 => 167 | 53 => 159 | 175 => 177 | 46 => 157 | 210 => 181 | 127 => 116 | 145 => 187 | 143 => 185 | 21 => 21 | 171 => 158 | 173 => 162 | 212 => 174 | 51 => 170 | 20 => 20 | 213 => 175 | 232 => 188 | 233 => 189 | 80 => 78 | n => n, fun | 15 => 2 | 16 => 3 | 17 => 1 | 18 => 4 | 19 => 5 | n => n⟩
theorem Tryz.laysC172 : Go.Proofs.LaysC.n172 Tryz.prog Tryz.laysC172_ren := {
  mixed := by kernel_rfl
  f129 := Tryz.func199.trans (congrArg some (by kernel_rfl))
  f171 := Tryz.func136.trans (congrArg some (by kernel_rfl))
  f172 := Tryz.func174.trans (congrArg some (by kernel_rfl))
  f205 := Tryz.func205.trans (congrArg some (by kernel_rfl))
  f243 := Tryz.func166.trans (congrArg some (by kernel_rfl))
  f244 := Tryz.func182.trans (congrArg some (by kernel_rfl))
  f245 := Tryz.func183.trans (congrArg some (by kernel_rfl))
  f246 := Tryz.func179.trans (congrArg some (by kernel_rfl))
  f247 := Tryz.func192.trans (congrArg some (by kernel_rfl))
  f279 := Tryz.func193.trans (congrArg some (by kernel_rfl))
  f280 := Tryz.func194.trans (congrArg some (by kernel_rfl))
  f281 := Tryz.func195.trans (congrArg some (by kernel_rfl))
  f282 := Tryz.func196.trans (congrArg some (by kernel_rfl))
  f283 := Tryz.func187.trans (congrArg some (by kernel_rfl))
  f284 := Tryz.func188.trans (congrArg some (by kernel_rfl))
  f285 := Tryz.func189.trans (congrArg some (by kernel_rfl))
  f286 := Tryz.func190.trans (congrArg some (by kernel_rfl))
  f287 := Tryz.func203.trans (congrArg some (by kernel_rfl))
  f316 := Tryz.func204.trans (congrArg some (by kernel_rfl))
  f317 := Tryz.func198.trans (congrArg some (by kernel_rfl))
  f318 := Tryz.func200.trans (congrArg some (by kernel_rfl))
  f319 := Tryz.func201.trans (congrArg some (by kernel_rfl))
  f320 := Tryz.func202.trans (congrArg some (by kernel_rfl))
  f321 := Tryz.func208.trans (congrArg some (by kernel_rfl))
  f322 := Tryz.func209.trans (congrArg some (by kernel_rfl))
  f337 := Tryz.func206.trans (congrArg some (by kernel_rfl))
  f338 := Tryz.func207.trans (congrArg some (by kernel_rfl))
  t0 := Tryz.underlying0
  a0 := Tryz.isAgg0
  z0 := Tryz.sizeOf0
  v0 := Tryz.zeroValue0
  t2 := Tryz.underlying2
  a2 := Tryz.isAgg2
  z2 := Tryz.sizeOf2
  v2 := Tryz.zeroValue2
  t3 := Tryz.underlying3
  a3 := Tryz.isAgg3
  z3 := Tryz.sizeOf3
  v3 := Tryz.zeroValue3
  t4 := Tryz.underlying4
  a4 := Tryz.isAgg4
  z4 := Tryz.sizeOf4
  v4 := Tryz.zeroValue4
  t5 := Tryz.underlying5
  a5 := Tryz.isAgg5
  z5 := Tryz.sizeOf5
  v5 := Tryz.zeroValue5
  t9 := Tryz.underlying9
  a9 := Tryz.isAgg9
  z9 := Tryz.sizeOf9
  v9 := Tryz.zeroValue9
  t20 := Tryz.underlying20
  a20 := Tryz.isAgg20
  z20 := Tryz.sizeOf20
  v20 := Tryz.zeroValue20
  t21 := Tryz.underlying21
  a21 := Tryz.isAgg21
  z21 := Tryz.sizeOf21
  v21 := Tryz.zeroValue21
  t37 := Tryz.underlying69
  a37 := Tryz.isAgg69
  z37 := Tryz.sizeOf69
  v37 := Tryz.zeroValue69
  t46 := Tryz.underlying157
  a46 := Tryz.isAgg157
  z46 := Tryz.sizeOf157
  v46 := Tryz.zeroValue157
  t51 := Tryz.underlying170
  a51 := Tryz.isAgg170
  z51 := Tryz.sizeOf170
  v51 := Tryz.zeroValue170
  t53 := Tryz.underlying159
  a53 := Tryz.isAgg159
  z53 := Tryz.sizeOf159
  v53 := Tryz.zeroValue159
  t75 := Tryz.underlying74
  a75 := Tryz.isAgg74
  z75 := Tryz.sizeOf74
  v75 := Tryz.zeroValue74
  t76 := Tryz.underlying76
  a76 := Tryz.isAgg76
  z76 := Tryz.sizeOf76
  v76 := Tryz.zeroValue76
  t85 := Tryz.underlying165
  a85 := Tryz.isAgg165
  z85 := Tryz.sizeOf165
  v85 := Tryz.zeroValue165
  t127 := Tryz.underlying116
  a127 := Tryz.isAgg116
  z127 := Tryz.sizeOf116
  v127 := Tryz.zeroValue116
  t143 := Tryz.underlying185
  a143 := Tryz.isAgg185
  z143 := Tryz.sizeOf185
  v143 := Tryz.zeroValue185
  t145 := Tryz.underlying187
  a145 := Tryz.isAgg187
  z145 := Tryz.sizeOf187
  v145 := Tryz.zeroValue187
  t167 := Tryz.underlying164
  a167 := Tryz.isAgg164
  z167 := Tryz.sizeOf164
  v167 := Tryz.zeroValue164
  t168 := Tryz.underlying167
  a168 := Tryz.isAgg167
  z168 := Tryz.sizeOf167
  v168 := Tryz.zeroValue167
  t171 := Tryz.underlying158
  a171 := Tryz.isAgg158
  z171 := Tryz.sizeOf158
  v171 := Tryz.zeroValue158
  t173 := Tryz.underlying162
  a173 := Tryz.isAgg162
  z173 := Tryz.sizeOf162
  v173 := Tryz.zeroValue162
  t175 := Tryz.underlying177
  a175 := Tryz.isAgg177
  z175 := Tryz.sizeOf177
  v175 := Tryz.zeroValue177
  t210 := Tryz.underlying181
  a210 := Tryz.isAgg181
  z210 := Tryz.sizeOf181
  v210 := Tryz.zeroValue181
  t212 := Tryz.underlying174
  a212 := Tryz.isAgg174
  z212 := Tryz.sizeOf174
  v212 := Tryz.zeroValue174
  t213 := Tryz.underlying175
  a213 := Tryz.isAgg175
  z213 := Tryz.sizeOf175
  t232 := Tryz.underlying188
  a232 := Tryz.isAgg188
  z232 := Tryz.sizeOf188
  v232 := Tryz.zeroValue188
  t233 := Tryz.underlying189
  a233 := Tryz.isAgg189
  z233 := Tryz.sizeOf189
  v233 := Tryz.zeroValue189
  g15 := by kernel_rfl
  g16 := by kernel_rfl
  g17 := by kernel_rfl
  g18 := by kernel_rfl
  g19 := by kernel_rfl
  t80 := Tryz.underlying78
  a80 := Tryz.isAgg78
  z80 := Tryz.sizeOf78
  v80 := Tryz.zeroValue78
  i0 := by kernel_rfl
  i2 := by kernel_rfl
  i3 := by kernel_rfl
  i4 := by kernel_rfl
  i5 := by kernel_rfl
  i9 := by kernel_rfl
  i20 := by kernel_rfl
  i21 := by kernel_rfl
  i37 := by kernel_rfl
  i46 := by kernel_rfl
  i51 := by kernel_rfl
  i53 := by kernel_rfl
  i75 := by kernel_rfl
  i76 := by kernel_rfl
  i80 := by kernel_rfl
  i85 := by kernel_rfl
  i127 := by kernel_rfl
  i143 := by kernel_rfl
  i145 := by kernel_rfl
  i167 := by kernel_rfl
  i168 := by kernel_rfl
  i171 := by kernel_rfl
  i173 := by kernel_rfl
  i175 := by kernel_rfl
  i210 := by kernel_rfl
  i212 := by kernel_rfl
  i232 := by kernel_rfl
  i233 := by kernel_rfl
  m15 := by kernel_rfl
  m16 := by kernel_rfl
  m17 := by kernel_rfl
  m18 := by kernel_rfl
  m19 := by kernel_rfl
  c0 := by kernel_rfl
  c2 := by kernel_rfl
  c3 := by kernel_rfl
  c4 := by kernel_rfl
  c5 := by kernel_rfl
  c9 := by kernel_rfl
  c20 := by kernel_rfl
  c21 := by kernel_rfl
  c37 := by kernel_rfl
  c46 := by kernel_rfl
  c51 := by kernel_rfl
  c53 := by kernel_rfl
  c75 := by kernel_rfl
  c76 := by kernel_rfl
  c80 := by kernel_rfl
  c85 := by kernel_rfl
  c127 := by kernel_rfl
  c143 := by kernel_rfl
  c145 := by kernel_rfl
  c167 := by kernel_rfl
  c168 := by kernel_rfl
  c171 := by kernel_rfl
  c173 := by kernel_rfl
  c175 := by kernel_rfl
  c210 := by kernel_rfl
  c212 := by kernel_rfl
  c213 := by kernel_rfl
  c232 := by kernel_rfl
  c233 := by kernel_rfl }
open Go.RowKit in
theorem Tryz.strconv_Atoi_ok (s : ByteArray) (hmax : s.size ≤ 9223372036854775806) (v : Int) (h : Lib.atoiAll s.data.toList = .ok v) (w : World) :
    Calls Tryz.prog 174 #[.string s] w fun e w' => e = .returned (.tuple #[.int .i64 v, .nilIface]) ∧ (w' = w ∨ ∃ t, w' = Lib.bytesWorld w 5 t) := Any.strconv_Atoi_ok Tryz.laysC172 s hmax v h w
open Go.RowKit in
theorem Tryz.strconv_Atoi_syntax_var (s : ByteArray) (hlim : s.size ≤ 281474976710656) (h : Lib.atoiAll s.data.toList = .«syntax») (tp : TypeId) (p : Value) (w : World) (hvar : w.var? Tryz.prog "strconv.ErrSyntax" = some #[.iface tp p]) :
    Calls Tryz.prog 174 #[.string s] w fun e w' => ∃ N, e = .returned (.tuple #[.int .i64 0, .iface 167 (.pointer (some ⟨N, 0, none⟩))]) ∧ w.heap.size ≤ N ∧ w'.heap[N]? = some (.cells #[.string ⟨#[65, 116, 111, 105]⟩, .string s, .iface tp p] 181 (0, 0)) ∧ Below w.heap.size w w' := Any.strconv_Atoi_syntax_var Tryz.laysC172 s hlim h tp p w hvar
open Go.RowKit in
theorem Tryz.strconv_Atoi_range_var (s : ByteArray) (hlim : s.size ≤ 281474976710656) (h : Lib.atoiAll s.data.toList = .range) (tp : TypeId) (p : Value) (w : World) (hvar : w.var? Tryz.prog "strconv.ErrRange" = some #[.iface tp p]) :
    Calls Tryz.prog 174 #[.string s] w fun e w' => ∃ N, e = .returned (.tuple #[.int .i64 (Lib.atoiSat s.data.toList), .iface 167 (.pointer (some ⟨N, 0, none⟩))]) ∧ w.heap.size ≤ N ∧ w'.heap[N]? = some (.cells #[.string ⟨#[65, 116, 111, 105]⟩, .string s, .iface tp p] 181 (0, 0)) ∧ Below w.heap.size w w' := Any.strconv_Atoi_range_var Tryz.laysC172 s hlim h tp p w hvar
def Tryz.lays219_ren : Go.Shelf.Ren := ⟨fun | 219 => 175 | 217 => 132 | 225 => 184 | 224 => 185 | 267 => 186 | 266 => 165 | 314 => 197 | n => n, fun | 9 => 9 | 3 => 3 | 4 => 4 | 5 => 5 | 46 => 157 | 146 => 171 | 51 => 170 | n => n, fun | 1 => 0 | n => n⟩
def Tryz.lays144_ren : Go.Shelf.Ren := ⟨fun | 144 => 120 | 143 => 153 | 219 => 175 | 217 => 132 | 225 => 184 | 224 => 185 | 267 => 186 | 266 => 165 | 314 => 197 | n => n, fun | 9 => 9 | 4 => 4 | 3 => 3 | 5 => 5 | 46 => 157 | 146 => 171 | 51 => 170 | n => n, fun | 1 => 0 | n => n⟩
theorem Tryz.lays144 : Go.Proofs.Lays.n144 Tryz.prog Tryz.lays144_ren := {
  mixed := by kernel_rfl
  f143 := Tryz.func153.trans (congrArg some (by kernel_rfl))
  f144 := Tryz.func120.trans (congrArg some (by kernel_rfl))
  f217 := Tryz.func132.trans (congrArg some (by kernel_rfl))
  f219 := Tryz.func175.trans (congrArg some (by kernel_rfl))
  f224 := Tryz.func185.trans (congrArg some (by kernel_rfl))
  f225 := Tryz.func184.trans (congrArg some (by kernel_rfl))
  f266 := Tryz.func165.trans (congrArg some (by kernel_rfl))
  f267 := Tryz.func186.trans (congrArg some (by kernel_rfl))
  f314 := Tryz.func197.trans (congrArg some (by kernel_rfl))
  t3 := Tryz.underlying3
  a3 := Tryz.isAgg3
  z3 := Tryz.sizeOf3
  v3 := Tryz.zeroValue3
  t4 := Tryz.underlying4
  a4 := Tryz.isAgg4
  z4 := Tryz.sizeOf4
  v4 := Tryz.zeroValue4
  t5 := Tryz.underlying5
  a5 := Tryz.isAgg5
  z5 := Tryz.sizeOf5
  v5 := Tryz.zeroValue5
  t9 := Tryz.underlying9
  a9 := Tryz.isAgg9
  z9 := Tryz.sizeOf9
  v9 := Tryz.zeroValue9
  t46 := Tryz.underlying157
  a46 := Tryz.isAgg157
  z46 := Tryz.sizeOf157
  v46 := Tryz.zeroValue157
  t51 := Tryz.underlying170
  a51 := Tryz.isAgg170
  z51 := Tryz.sizeOf170
  v51 := Tryz.zeroValue170
  t146 := Tryz.underlying171
  a146 := Tryz.isAgg171
  z146 := Tryz.sizeOf171
  v146 := Tryz.zeroValue171
  g1 := by kernel_rfl }
open Go.RowKit Go.Lib in
theorem Tryz.strings_Contains (s sub : ByteArray) (m : Int) (w : World) (hs : s.size < 4294967281) (hm : w.cell? ⟨0, 0, none⟩ = some (.int .i64 m)) :
    Calls Tryz.prog 120 #[.string s, .string sub] w fun e w' => e = .returned (.bool (Lib.contains s.data.toList sub.data.toList)) ∧ w' = w := Any.strings_Contains Tryz.lays144 s sub m w hs hm
def Tryz.lays206_ren : Go.Shelf.Ren := ⟨fun | 206 => 131 | n => n, fun | 9 => 9 | 4 => 4 | 3 => 3 | n => n, fun | n => n⟩
def Tryz.lays99_ren : Go.Shelf.Ren := ⟨fun | 99 => 90 | 206 => 131 | n => n, fun | 9 => 9 | 4 => 4 | 3 => 3 | n => n, fun | n => n⟩
theorem Tryz.lays99 : Go.Proofs.Lays.n99 Tryz.prog Tryz.lays99_ren := {
  mixed := by kernel_rfl
  f99 := Tryz.func90.trans (congrArg some (by kernel_rfl))
  f206 := Tryz.func131.trans (congrArg some (by kernel_rfl))
  t3 := Tryz.underlying3
  a3 := Tryz.isAgg3
  z3 := Tryz.sizeOf3
  v3 := Tryz.zeroValue3
  t4 := Tryz.underlying4
  a4 := Tryz.isAgg4
  z4 := Tryz.sizeOf4
  v4 := Tryz.zeroValue4
  t9 := Tryz.underlying9
  a9 := Tryz.isAgg9
  z9 := Tryz.sizeOf9
  v9 := Tryz.zeroValue9 }
open Go.RowKit Go.Lib in
theorem Tryz.strings_HasPrefix (s p : ByteArray) (w : World) :
    Calls Tryz.prog 90 #[.string s, .string p] w fun e w' => e = .returned (.bool (Lib.hasPrefix s.data.toList p.data.toList)) ∧ w' = w := Any.strings_HasPrefix Tryz.lays99 s p w
end Go.Proofs
namespace Go.Proofs.YtkpeklealgicpabGreatDoor
open Go.RowKit
theorem yeU {c:UInt8} {b:Bool} (h:isL c=b) (w:World):Calls Tryz.prog 86 #[.int .u8 (c.toNat:Int)] w fun e w'=>e=.returned (.bool b)∧w'=w:=by
 rw [← h];exact yeG c w
theorem yfl {c:UInt8} {b:Bool} (h:isD c=b) (w:World):Calls Tryz.prog 88 #[.int .u8 (c.toNat:Int)] w fun e w'=>e=.returned (.bool b)∧w'=w:=by
 rw [← h];exact ydy c w
theorem ydI (s:ByteArray) (a:Nat) (i:Int) (w:World) (hi:i=(a:Int)) (hs:s.size≤9223372036854775000) (ha:a≤s.size) :
  Calls Tryz.prog 37 #[.string s,.int .i64 i,.func (.func 89) #[] #[]] w fun e w'=>e=.returned (.int .i64 (yav isQ s a:Nat))∧w'=w:=by
 subst hi;exact ynv s a w hs ha
theorem ymA (s:ByteArray) (a:Nat) (w:World) (hs:s.size≤2000) (ha:a < s.size) (hc:isL s[a]=true) :
  Calls Tryz.prog 39 #[.string s,.int .i64 (a:Int)] w fun e w'=>e=.returned (.agg #[.int .i64 1,.int .i64 (a:Int),.string (s.extract a (yav isW s a))])∧Below w.heap.size w w':=by
 have h1:=yeU hc
 have h2:=ye8 isW s a (by omega)
 have h3:=ycV isW s a
 clear hc
 go_enter Tryz.func39,Tryz.ntmps39
 go_wp2_with (first|(go_at_call 86;refine (h1 _).mono ?_;rintro e w' ⟨rfl,rfl⟩)|(go_at_call 37;refine (ynw _ _ _ (by omega) (by omega)).mono ?_;rintro e w' ⟨rfl,rfl⟩))
 exact bodyPost_ret (v:=.agg #[.int .i64 1,.int .i64 (a:Int),.string (s.extract a (yav isW s a))]) (by simp [results,Tryz.results39,go_sem]) rfl ⟨rfl,(Below.refl _ _).alloc (Nat.le_refl _) _⟩
theorem yix (s:ByteArray) (a:Nat) (w:World) (hs:s.size≤2000) (ha:a < s.size) (hc:isL s[a]=false) (hd:isD s[a]=true) :
  Calls Tryz.prog 39 #[.string s,.int .i64 (a:Int)] w fun e w'=>e=.returned (.agg #[.int .i64 2,.int .i64 (a:Int),.string (s.extract a (yav isD s a))])∧Below w.heap.size w w':=by
 have h1:=yeU hc
 have h1b:=yfl hd
 have h2:=ye8 isD s a (by omega)
 have h3:=ycV isD s a
 clear hc hd
 go_enter Tryz.func39,Tryz.ntmps39
 go_wp2_with (first|(go_at_call 86;refine (h1 _).mono ?_;rintro e w' ⟨rfl,rfl⟩)|(go_at_call 88;refine (h1b _).mono ?_;rintro e w' ⟨rfl,rfl⟩)|(go_at_call 37;refine (ykQ _ _ _ (by omega) (by omega)).mono ?_;rintro e w' ⟨rfl,rfl⟩))
 exact bodyPost_ret (v:=.agg #[.int .i64 2,.int .i64 (a:Int),.string (s.extract a (yav isD s a))]) (by simp [results,Tryz.results39,go_sem]) rfl ⟨rfl,(Below.refl _ _).alloc (Nat.le_refl _) _⟩
theorem ymE (s:ByteArray) (a:Nat) (w:World) (hs:s.size≤2000) (ha:a < s.size) (hc:isL s[a]=false) (hd:isD s[a]=false) (hq:((s[a].toNat:Int) == 39)=true)
  (he:yav isQ s (a+1) < s.size) (hz:((s[yav isQ s (a+1)].toNat:Int) == 39)=true) :
  Calls Tryz.prog 39 #[.string s,.int .i64 (a:Int)] w fun e w'=>e=.returned (.agg #[.int .i64 3,.int .i64 (a:Int),.string (s.extract a (yav isQ s (a+1)+1))])∧Below w.heap.size w w':=by
 have h1:=yeU hc
 have h1b:=yfl hd
 have h3:=ycV isQ s (a+1)
 clear hc hd
 go_enter Tryz.func39,Tryz.ntmps39
 go_wp2_with (first|(go_at_call 86;refine (h1 _).mono ?_;rintro e w' ⟨rfl,rfl⟩)|(go_at_call 88;refine (h1b _).mono ?_;rintro e w' ⟨rfl,rfl⟩)|(go_at_call 37;refine (ydI s (a+1) _ _ (by omega) (by omega) (by omega)).mono ?_;rintro e w' ⟨rfl,rfl⟩))
 exact bodyPost_ret (v:=.agg #[.int .i64 3,.int .i64 (a:Int),.string (s.extract a (yav isQ s (a+1)+1))]) (by simp [results,Tryz.results39,go_sem]) rfl ⟨rfl,(Below.refl _ _).alloc (Nat.le_refl _) _⟩
theorem ymC (s:ByteArray) (a:Nat) (w:World) (hs:s.size≤2000) (ha:a < s.size) (hc:isL s[a]=false) (hd:isD s[a]=false) (hq:((s[a].toNat:Int) == 39)=true)
  (he:¬ yav isQ s (a+1) < s.size) :
  Calls Tryz.prog 39 #[.string s,.int .i64 (a:Int)] w fun e w'=>e=.returned (.agg #[.int .i64 0,.int .i64 0,.string ⟨#[]⟩])∧Below w.heap.size w w':=by
 have h1:=yeU hc
 have h1b:=yfl hd
 have h3:=ycV isQ s (a+1)
 clear hc hd
 go_enter Tryz.func39,Tryz.ntmps39
 go_wp2_with (first|(go_at_call 86;refine (h1 _).mono ?_;rintro e w' ⟨rfl,rfl⟩)|(go_at_call 88;refine (h1b _).mono ?_;rintro e w' ⟨rfl,rfl⟩)|(go_at_call 37;refine (ydI s (a+1) _ _ (by omega) (by omega) (by omega)).mono ?_;rintro e w' ⟨rfl,rfl⟩))
 exact bodyPost_ret (v:=.agg #[.int .i64 0,.int .i64 0,.string ⟨#[]⟩]) (by simp [results,Tryz.results39,go_sem]) rfl ⟨rfl,(Below.refl _ _).alloc (Nat.le_refl _) _⟩
theorem yiw (s:ByteArray) (a:Nat) (w:World) (hs:s.size≤2000) (ha:a < s.size) (hc:isL s[a]=false) (hd:isD s[a]=false) (hq:((s[a].toNat:Int) == 39)=true)
  (he:yav isQ s (a+1) < s.size) (hz:((s[yav isQ s (a+1)].toNat:Int) == 39)=false) :
  Calls Tryz.prog 39 #[.string s,.int .i64 (a:Int)] w fun e w'=>e=.returned (.agg #[.int .i64 0,.int .i64 0,.string ⟨#[]⟩])∧Below w.heap.size w w':=by
 have h1:=yeU hc
 have h1b:=yfl hd
 have h3:=ycV isQ s (a+1)
 clear hc hd
 go_enter Tryz.func39,Tryz.ntmps39
 go_wp2_with (first|(go_at_call 86;refine (h1 _).mono ?_;rintro e w' ⟨rfl,rfl⟩)|(go_at_call 88;refine (h1b _).mono ?_;rintro e w' ⟨rfl,rfl⟩)|(go_at_call 37;refine (ydI s (a+1) _ _ (by omega) (by omega) (by omega)).mono ?_;rintro e w' ⟨rfl,rfl⟩))
 exact bodyPost_ret (v:=.agg #[.int .i64 0,.int .i64 0,.string ⟨#[]⟩]) (by simp [results,Tryz.results39,go_sem]) rfl ⟨rfl,(Below.refl _ _).alloc (Nat.le_refl _) _⟩
def ycY (l:List UInt8):Bool:=Lib.hasPrefix l [124,124]
def isS (c:UInt8):Bool:=decide (c ∈ ([40,41,44,59,42,61,60,43,45]:List UInt8))
theorem yh9 (s:ByteArray) (a:Nat):(s.extract a s.size).data.toList=s.data.toList.drop a:=by
 rw [Lib.extract_data,List.take_of_length_le]
 simp
theorem ydB (s:ByteArray) (a:Nat) {b:Bool} (h:ycY (s.data.toList.drop a)=b) (w:World) :
  Calls Tryz.prog 90 #[.string (s.extract a s.size),.string ⟨#[124,124]⟩] w fun e w'=>e=.returned (.bool b)∧w'=w:=by
 have:=Tryz.strings_HasPrefix (s.extract a s.size) ⟨#[124,124]⟩ w
 rw [yh9] at this
 rw [← h];exact this
theorem ygx (l:List UInt8) (c:UInt8):0≤Lib.indexByte l c↔c ∈ l:=by
 induction l with
 | nil=>simp [Lib.indexByte]
 | cons b l ih =>
  have g:=Lib.indexByte_ge l c
  unfold Lib.indexByte
  by_cases h:b=c
  ·subst h;simp
  ·have h':¬ c=b:=fun e=>h e.symm
   rw [if_neg (by simpa using h)]
   by_cases h2:Lib.indexByte l c = -1
   ·rw [if_pos (by simpa using h2)]
    have:¬ c ∈ l:=fun m=>by have:=ih.2 m;omega
    simp [h',this]
   ·rw [if_neg (by simpa using h2)]
    have:c ∈ l:=ih.1 (by omega)
    simp [this];omega
theorem yeT (c:UInt8) (w:World) :
  Calls Tryz.prog 91 #[.string ⟨#[40,41,44,59,42,61,60,43,45]⟩,.int .u8 (c.toNat:Int)] w fun e w'=>(∃ n:Int,e=.returned (.int .i64 n)∧(0≤n↔isS c=true))∧w'=w:=by
 refine (Tryz.strings_IndexByte _ _ _).mono ?_
 rintro e w' ⟨rfl,rfl⟩
 refine ⟨⟨_,rfl, ?_⟩,rfl⟩
 rw [ygx]
 simp [isS]
theorem ymz (s:ByteArray) (a:Nat) (w:World) (hs:s.size≤2000) (ha:a+2≤s.size) (hc:isL s[a]=false) (hd:isD s[a]=false) (hq:((s[a].toNat:Int) == 39)=false)
  (hp:ycY (s.data.toList.drop a)=true) :
  Calls Tryz.prog 39 #[.string s,.int .i64 (a:Int)] w fun e w'=>e=.returned (.agg #[.int .i64 4,.int .i64 (a:Int),.string (s.extract a (a+2))])∧Below w.heap.size w w':=by
 have h1:=yeU hc
 have h1b:=yfl hd
 have h2:=ydB s a hp
 clear hc hd hp
 go_enter Tryz.func39,Tryz.ntmps39
 go_wp2_with (first|(go_at_call 86;refine (h1 _).mono ?_;rintro e w' ⟨rfl,rfl⟩)|(go_at_call 88;refine (h1b _).mono ?_;rintro e w' ⟨rfl,rfl⟩)|(go_at_call 90;refine (h2 _).mono ?_;rintro e w' ⟨rfl,rfl⟩))
 exact bodyPost_ret (v:=.agg #[.int .i64 4,.int .i64 (a:Int),.string (s.extract a (a+2))]) (by simp [results,Tryz.results39,go_sem]) rfl ⟨rfl,(Below.refl _ _).alloc (Nat.le_refl _) _⟩
theorem ymD (s:ByteArray) (a:Nat) (w:World) (hs:s.size≤2000) (ha:a < s.size) (hc:isL s[a]=false) (hd:isD s[a]=false) (hq:((s[a].toNat:Int) == 39)=false)
  (hp:ycY (s.data.toList.drop a)=false) (hg:isS s[a]=true) :
  Calls Tryz.prog 39 #[.string s,.int .i64 (a:Int)] w fun e w'=>e=.returned (.agg #[.int .i64 4,.int .i64 (a:Int),.string (s.extract a (a+1))])∧Below w.heap.size w w':=by
 have h1:=yeU hc
 have h1b:=yfl hd
 have h2:=ydB s a hp
 have HG:Hid (isS s[a]=true):=hg
 clear hc hd hp hg
 go_enter Tryz.func39,Tryz.ntmps39
 go_wp2_with (first|(go_at_call 86;refine (h1 _).mono ?_;rintro e w' ⟨rfl,rfl⟩)|(go_at_call 88;refine (h1b _).mono ?_;rintro e w' ⟨rfl,rfl⟩)|(go_at_call 90;refine (h2 _).mono ?_;rintro e w' ⟨rfl,rfl⟩)|(go_at_call 91;refine (yeT _ _).mono ?_;rintro e w' ⟨⟨n,rfl,hn⟩,rfl⟩;replace hn:=hn.2 HG.out))
 exact bodyPost_ret (v:=.agg #[.int .i64 4,.int .i64 (a:Int),.string (s.extract a (a+1))]) (by simp [results,Tryz.results39,go_sem]) rfl ⟨rfl,(Below.refl _ _).alloc (Nat.le_refl _) _⟩
theorem ymB (s:ByteArray) (a:Nat) (w:World) (_hs:s.size≤2000) (ha:a < s.size) (hc:isL s[a]=false) (hd:isD s[a]=false) (hq:((s[a].toNat:Int) == 39)=false)
  (hp:ycY (s.data.toList.drop a)=false) (hg:isS s[a]=false) :
  Calls Tryz.prog 39 #[.string s,.int .i64 (a:Int)] w fun e w'=>e=.returned (.agg #[.int .i64 0,.int .i64 0,.string ⟨#[]⟩])∧Below w.heap.size w w':=by
 have h1:=yeU hc
 have h1b:=yfl hd
 have h2:=ydB s a hp
 have HG:Hid (isS s[a]=false):=hg
 clear hc hd hp hg
 go_enter Tryz.func39,Tryz.ntmps39
 go_wp2_with (first|(go_at_call 86;refine (h1 _).mono ?_;rintro e w' ⟨rfl,rfl⟩)|(go_at_call 88;refine (h1b _).mono ?_;rintro e w' ⟨rfl,rfl⟩)|(go_at_call 90;refine (h2 _).mono ?_;rintro e w' ⟨rfl,rfl⟩)|(go_at_call 91;refine (yeT _ _).mono ?_;rintro e w' ⟨⟨n,rfl,hn⟩,rfl⟩;replace hn:n < 0:=by (have hx:=HG.out;rcases Int.lt_or_le n 0 with h|h;exact h;rw [hn.1 h] at hx;cases hx)))
 exact bodyPost_ret (v:=.agg #[.int .i64 0,.int .i64 0,.string ⟨#[]⟩]) (by simp [results,Tryz.results39,go_sem]) rfl ⟨rfl,(Below.refl _ _).alloc (Nat.le_refl _) _⟩
def yba:List UInt8→Nat×Nat
 | []=>(0,0)
 | c::r =>
  if isL c=true then (1,ycN isW r+1)
  else if isD c=true then (2,ycN isD r+1)
  else if c=39 then (if r[ycN isQ r]?=some 39 then (3,ycN isQ r+2) else (0,0))
  else if ycY (c::r)=true then (4,2)
  else if isS c=true then (4,1)
  else (0,0)
def ydu (s:ByteArray) (a:Nat):Value :=
 if (yba (s.data.toList.drop a)).1=0 then .agg #[.int .i64 0,.int .i64 0,.string ⟨#[]⟩]
 else .agg #[.int .i64 ((yba (s.data.toList.drop a)).1:Nat),.int .i64 (a:Int),.string (s.extract a (a+(yba (s.data.toList.drop a)).2))]
theorem yfH (c:UInt8):((c.toNat:Int) == 39)=decide (c=39):=by
 rw [Bool.eq_iff_iff]
 simp
 constructor
 ·intro h;apply UInt8.toNat_inj.1;simp;omega
 ·intro h;subst h;rfl
theorem ypf (s:ByteArray) (a:Nat) (w:World) (hs:s.size≤2000) (ha:a < s.size) :
  Calls Tryz.prog 39 #[.string s,.int .i64 (a:Int)] w fun e w'=>e=.returned (ydu s a)∧Below w.heap.size w w':=by
 have hd:=ydl s a ha
 have get:∀ j,(h:j < s.size)→a+1≤j→(s.data.toList.drop (a+1))[j - (a+1)]?=some s[j]:=by
  intro j h hj
  rw [List.getElem?_drop,show a+1+(j - (a+1))=j by omega,List.getElem?_eq_getElem (by simpa using h)];rfl
 cases hL:isL s[a]
 case true =>
  have e:ydu s a=.agg #[.int .i64 1,.int .i64 (a:Int),.string (s.extract a (yav isW s a))]:=by
   have:yav isW s a=a+(ycN isW (s.data.toList.drop (a+1))+1):=by
    rw [yb2 isW s a ha (by simp [isW,hL])];unfold yav;omega
   unfold ydu;rw [hd];simp [yba,hL,this]
  rw [e];exact ymA s a w hs ha hL
 case false =>
 cases hD:isD s[a]
 case true =>
  have e:ydu s a=.agg #[.int .i64 2,.int .i64 (a:Int),.string (s.extract a (yav isD s a))]:=by
   have:yav isD s a=a+(ycN isD (s.data.toList.drop (a+1))+1):=by
    rw [yb2 isD s a ha hD];unfold yav;omega
   unfold ydu;rw [hd];simp [yba,hL,hD,this]
  rw [e];exact yix s a w hs ha hL hD
 case false =>
 cases hQ:((s[a].toNat:Int) == 39)
 case true =>
  have hq:s[a]=39:=by rw [yfH] at hQ;simpa using hQ
  have l39:isL 39=false:=by decide
  have d39:isD 39=false:=by decide
  have hsp:yav isQ s (a+1)=a+1+ycN isQ (s.data.toList.drop (a+1)):=rfl
  by_cases he:yav isQ s (a+1) < s.size
  ·have hg:=get _ he (ycV isQ s (a+1))
   rw [show yav isQ s (a+1) - (a+1)=ycN isQ (s.data.toList.drop (a+1)) by omega] at hg
   cases hz:((s[yav isQ s (a+1)].toNat:Int) == 39)
   case true =>
    have hz':s[yav isQ s (a+1)]=39:=by rw [yfH] at hz;simpa using hz
    have e:ydu s a=.agg #[.int .i64 3,.int .i64 (a:Int),.string (s.extract a (yav isQ s (a+1)+1))]:=by
     have h2:yav isQ s (a+1)+1=a+(ycN isQ (s.data.toList.drop (a+1))+2):=by omega
     unfold ydu;rw [hd];simp only [yba,l39,d39,hq,hg,hz',h2];rfl
    rw [e];exact ymE s a w hs ha hL hD hQ he hz
   case false =>
    have hz':¬ s[yav isQ s (a+1)]=39:=by rw [yfH] at hz;simpa using hz
    have e:ydu s a=.agg #[.int .i64 0,.int .i64 0,.string ⟨#[]⟩]:=by
     unfold ydu;rw [hd];simp only [yba,l39,d39,hq,hg];simp [hz']
    rw [e];exact yiw s a w hs ha hL hD hQ he hz
  ·have hg:(s.data.toList.drop (a+1))[ycN isQ (s.data.toList.drop (a+1))]?=none:=by
    rw [List.getElem?_eq_none];simp;omega
   have e:ydu s a=.agg #[.int .i64 0,.int .i64 0,.string ⟨#[]⟩]:=by
    unfold ydu;rw [hd];simp only [yba,l39,d39,hq,hg];simp
   rw [e];exact ymC s a w hs ha hL hD hQ he
 case false =>
 have hq:¬ s[a]=39:=by rw [yfH] at hQ;simpa using hQ
 cases hP:ycY (s.data.toList.drop a)
 case true =>
  have h2:a+2≤s.size:=by
   have:=List.IsPrefix.length_le (List.isPrefixOf_iff_prefix.1 hP)
   simp at this;omega
  have e:ydu s a=.agg #[.int .i64 4,.int .i64 (a:Int),.string (s.extract a (a+2))]:=by
   rw [hd] at hP
   unfold ydu;rw [hd];simp [yba,hL,hD,hq,hP]
  rw [e];exact ymz s a w hs h2 hL hD hQ hP
 case false =>
 cases hS:isS s[a]
 case true =>
  have e:ydu s a=.agg #[.int .i64 4,.int .i64 (a:Int),.string (s.extract a (a+1))]:=by
   have hP':=hP
   rw [hd] at hP'
   unfold ydu;rw [hd];simp [yba,hL,hD,hq,hP',hS]
  rw [e];exact ymD s a w hs ha hL hD hQ hP hS
 case false =>
  have e:ydu s a=.agg #[.int .i64 0,.int .i64 0,.string ⟨#[]⟩]:=by
   have hP':=hP
   rw [hd] at hP'
   unfold ydu;rw [hd];simp [yba,hL,hD,hq,hP',hS]
  rw [e];exact ymB s a w hs ha hL hD hQ hP hS
theorem yhj (w:World):Calls Tryz.prog 92 #[.int .i64 1] w fun e w'=>e=.returned (.int .i64 12)∧w'=w:=by
 go_enter Tryz.func92,Tryz.ntmps92
 go_wp2
 go_ret
 exact ⟨rfl,rfl⟩
theorem yeg (w:World):Calls Tryz.prog 92 #[.int .i64 2] w fun e w'=>e=.returned (.int .i64 9)∧w'=w:=by
 go_enter Tryz.func92,Tryz.ntmps92
 go_wp2
 go_ret
 exact ⟨rfl,rfl⟩
theorem yhk (w:World):Calls Tryz.prog 92 #[.int .i64 3] w fun e w'=>e=.returned (.int .i64 22)∧w'=w:=by
 go_enter Tryz.func92,Tryz.ntmps92
 go_wp2
 go_ret
 exact ⟨rfl,rfl⟩
theorem ymw (w:World):Calls Tryz.prog 92 #[.int .i64 4] w fun e w'=>e=.returned (.int .i64 2)∧w'=w:=by
 go_enter Tryz.func92,Tryz.ntmps92
 go_wp2
 go_ret
 exact ⟨rfl,rfl⟩
theorem ylt (A:Int) (t:ByteArray) (w:World) :
  Calls Tryz.prog 40 #[.agg #[.int .i64 0,.int .i64 A,.string t]] w fun e w'=>e=.returned (.int .i64 1)∧Below w.heap.size w w':=by
 go_enter Tryz.func40,Tryz.ntmps40
 go_wp2
 go_ret
 exact ⟨rfl,(Below.refl _ _).alloc (Nat.le_refl _) _⟩
theorem yg5 (A:Int) (t:ByteArray) (w:World) (hs:t.size≤2000) (hl:12 < t.size) :
  Calls Tryz.prog 40 #[.agg #[.int .i64 1,.int .i64 A,.string t]] w fun e w'=>e=.returned (.int .i64 2)∧Below w.heap.size w w':=by
 go_enter Tryz.func40,Tryz.ntmps40
 go_wp2
 go_quiet ((go_at_call 92;exact Calls.quiet_of_same (yhj _)))
 go_wp2
 go_ret
 exact ⟨rfl,below_drewN ((Below.refl _ _).alloc (Nat.le_refl _) _) _⟩
theorem yjR (A:Int) (t:ByteArray) (w:World) (hs:t.size≤2000) (hl:t.size≤12) :
  Calls Tryz.prog 40 #[.agg #[.int .i64 1,.int .i64 A,.string t]] w fun e w'=>e=.returned (.int .i64 0)∧Below w.heap.size w w':=by
 go_enter Tryz.func40,Tryz.ntmps40
 go_wp2
 go_quiet ((go_at_call 92;exact Calls.quiet_of_same (yhj _)))
 go_wp2
 go_ret
 exact ⟨rfl,below_drewN ((Below.refl _ _).alloc (Nat.le_refl _) _) _⟩
theorem yg6 (A:Int) (t:ByteArray) (w:World) (hs:t.size≤2000) (hl:9 < t.size) :
  Calls Tryz.prog 40 #[.agg #[.int .i64 2,.int .i64 A,.string t]] w fun e w'=>e=.returned (.int .i64 2)∧Below w.heap.size w w':=by
 go_enter Tryz.func40,Tryz.ntmps40
 go_wp2
 go_quiet ((go_at_call 92;exact Calls.quiet_of_same (yeg _)))
 go_wp2
 go_ret
 exact ⟨rfl,below_drewN ((Below.refl _ _).alloc (Nat.le_refl _) _) _⟩
theorem yia (A:Int) (t:ByteArray) (w:World) (hs:t.size≤2000) (hl:t.size≤1) :
  Calls Tryz.prog 40 #[.agg #[.int .i64 2,.int .i64 A,.string t]] w fun e w'=>e=.returned (.int .i64 0)∧Below w.heap.size w w':=by
 go_enter Tryz.func40,Tryz.ntmps40
 go_wp2
 go_quiet ((go_at_call 92;exact Calls.quiet_of_same (yeg _)))
 go_wp2
 go_ret
 exact ⟨rfl,below_drewN ((Below.refl _ _).alloc (Nat.le_refl _) _) _⟩
theorem yfS (A:Int) (t:ByteArray) (w:World) (hs:t.size≤2000) (hl:t.size≤9) (h1:1 < t.size) (hz:((t[0].toNat:Int) == 48)=true) :
  Calls Tryz.prog 40 #[.agg #[.int .i64 2,.int .i64 A,.string t]] w fun e w'=>e=.returned (.int .i64 1)∧Below w.heap.size w w':=by
 go_enter Tryz.func40,Tryz.ntmps40
 go_wp2
 go_quiet ((go_at_call 92;exact Calls.quiet_of_same (yeg _)))
 go_wp2
 go_ret
 exact ⟨rfl,below_drewN ((Below.refl _ _).alloc (Nat.le_refl _) _) _⟩
theorem yjS (A:Int) (t:ByteArray) (w:World) (hs:t.size≤2000) (hl:t.size≤9) (h1:1 < t.size) (hz:((t[0].toNat:Int) == 48)=false) :
  Calls Tryz.prog 40 #[.agg #[.int .i64 2,.int .i64 A,.string t]] w fun e w'=>e=.returned (.int .i64 0)∧Below w.heap.size w w':=by
 go_enter Tryz.func40,Tryz.ntmps40
 go_wp2
 go_quiet ((go_at_call 92;exact Calls.quiet_of_same (yeg _)))
 go_wp2
 go_ret
 exact ⟨rfl,below_drewN ((Below.refl _ _).alloc (Nat.le_refl _) _) _⟩
theorem yg7 (A:Int) (t:ByteArray) (w:World) (hs:t.size≤2000) (hl:22 < t.size) :
  Calls Tryz.prog 40 #[.agg #[.int .i64 3,.int .i64 A,.string t]] w fun e w'=>e=.returned (.int .i64 2)∧Below w.heap.size w w':=by
 go_enter Tryz.func40,Tryz.ntmps40
 go_wp2
 go_quiet ((go_at_call 92;exact Calls.quiet_of_same (yhk _)))
 go_wp2
 go_ret
 exact ⟨rfl,below_drewN ((Below.refl _ _).alloc (Nat.le_refl _) _) _⟩
theorem yjT (A:Int) (t:ByteArray) (w:World) (hs:t.size≤2000) (hl:t.size≤22) :
  Calls Tryz.prog 40 #[.agg #[.int .i64 3,.int .i64 A,.string t]] w fun e w'=>e=.returned (.int .i64 0)∧Below w.heap.size w w':=by
 go_enter Tryz.func40,Tryz.ntmps40
 go_wp2
 go_quiet ((go_at_call 92;exact Calls.quiet_of_same (yhk _)))
 go_wp2
 go_ret
 exact ⟨rfl,below_drewN ((Below.refl _ _).alloc (Nat.le_refl _) _) _⟩
theorem yjU (A:Int) (t:ByteArray) (w:World) (hs:t.size≤2000) (hl:t.size≤2) :
  Calls Tryz.prog 40 #[.agg #[.int .i64 4,.int .i64 A,.string t]] w fun e w'=>e=.returned (.int .i64 0)∧Below w.heap.size w w':=by
 go_enter Tryz.func40,Tryz.ntmps40
 go_wp2
 go_quiet ((go_at_call 92;exact Calls.quiet_of_same (ymw _)))
 go_wp2
 go_ret
 exact ⟨rfl,below_drewN ((Below.refl _ _).alloc (Nat.le_refl _) _) _⟩
def yaD (k:Nat) (l:List UInt8):Nat :=
 if k=0 then 1
 else if (k=1∧12 < l.length)∨(k=2∧9 < l.length)∨(k=3∧22 < l.length) then 2
 else if k=2∧1 < l.length∧l.head?=some 48 then 1
 else 0
structure Tk where
 k:Int
 a:Int
 t:List UInt8
def Tk.cells (x:Tk):List Value:=[.int .i64 x.k,.int .i64 x.a,.string ⟨x.t.toArray⟩]
def ybM (l:List Tk):List Value:=l.flatMap Tk.cells
theorem yfc (l:List Tk) (x:Tk):ybM (l++[x])=ybM l++x.cells:=by simp [ybM]
def yb1:Nat→Nat→List UInt8→List Tk→List Tk×Nat×Nat
 | 0,_,_,acc=>(acc,0,0)
 | _+1,_,[],acc=>(acc,0,0)
 | f+1,a,c::r,acc =>
  if isB c=true then yb1 f (a+1) r acc
  else if yaD (yba (c::r)).1 ((c::r).take (yba (c::r)).2)=0 then
   yb1 f (a+(yba (c::r)).2) ((c::r).drop (yba (c::r)).2) (acc++[⟨((yba (c::r)).1:Nat),(a:Nat),(c::r).take (yba (c::r)).2⟩])
  else ([],a,yaD (yba (c::r)).1 ((c::r).take (yba (c::r)).2))
def ya7 (a:Nat) (l:List UInt8) (acc:List Tk):List Tk×Nat×Nat:=yb1 (l.length+1) a l acc
theorem ydr (c:UInt8) (r:List UInt8) (h:(yba (c::r)).1≠0):1≤(yba (c::r)).2:=by
 revert h
 rw [yba]
 split
 ·intro _;simp
 ·split
  ·intro _;simp
  ·split
   ·split
    ·intro _;simp
    ·intro h;exact absurd rfl h
   ·split
    ·intro _;simp
    ·split
     ·intro _;simp
     ·intro h;exact absurd rfl h
theorem ygQ (l:List UInt8):(yba l).2≤l.length:=by
 cases l with
 | nil=>simp [yba]
 | cons c r =>
  have h1:=ygJ isW r
  have h2:=ygJ isD r
  have h3:=ygJ isQ r
  rw [yba]
  split
  ·simp;omega
  ·split
   ·simp;omega
   ·split
    ·split
     ·rename_i h
      have:ycN isQ r < r.length:=by
       rcases Nat.lt_or_ge (ycN isQ r) r.length with g|g
       ·exact g
       ·rw [List.getElem?_eq_none g] at h;cases h
      simp;omega
     ·simp
    ·split
     ·rename_i h
      have:=List.IsPrefix.length_le (List.isPrefixOf_iff_prefix.1 h)
      simpa using this
     ·split
      ·simp
      ·simp
theorem ydJ (l:List UInt8):(yba l).1≤4∧((yba l).1=4→(yba l).2≤2):=by
 cases l with
 | nil=>simp [yba]
 | cons c r =>
  rw [yba]
  split
  ·simp
  ·split
   ·simp
   ·split
    ·split
     ·simp
     ·simp
    ·split
     ·simp
     ·split
      ·simp
      ·simp
theorem ycf {k:Nat} {l:List UInt8} (h:yaD k l=0):k≠0:=by
 intro e;subst e;simp [yaD] at h
theorem yiV (f:Nat):∀ (g a:Nat) (l:List UInt8) (acc:List Tk),l.length < f→l.length < g→yb1 f a l acc=yb1 g a l acc:=by
 induction f with
 | zero=>intro g a l acc h;omega
 | succ f ih =>
  intro g a l acc hf hg
  cases g with
  | zero=>omega
  | succ g =>
   cases l with
   | nil=>rfl
   | cons c r =>
    simp only [List.length_cons] at hf hg
    unfold yb1
    split
    ·exact ih g (a+1) r acc (by omega) (by omega)
    ·split
     ·rename_i h
      have:=ydr c r (ycf h)
      exact ih g _ _ _ (by simp only [List.length_drop,List.length_cons];omega) (by simp only [List.length_drop,List.length_cons];omega)
     ·rfl
theorem yhD (a:Nat) (acc:List Tk):ya7 a [] acc=(acc,0,0):=rfl
theorem ydq (a:Nat) (c:UInt8) (r:List UInt8) (acc:List Tk) (h:isB c=true):ya7 a (c::r) acc=ya7 (a+1) r acc:=by
 unfold ya7;rw [yb1,if_pos h];rfl
theorem yet (a:Nat) (c:UInt8) (r:List UInt8) (acc:List Tk) (h:isB c=false) (hw:yaD (yba (c::r)).1 ((c::r).take (yba (c::r)).2)=0) :
  ya7 a (c::r) acc=ya7 (a+(yba (c::r)).2) ((c::r).drop (yba (c::r)).2) (acc++[⟨((yba (c::r)).1:Nat),(a:Nat),(c::r).take (yba (c::r)).2⟩]):=by
 have:=ydr c r (ycf hw)
 unfold ya7;rw [yb1,if_neg (by simp [h]),if_pos hw]
 exact yiV _ _ _ _ _ (by simp only [List.length_drop,List.length_cons];omega) (by omega)
theorem yhB (a:Nat) (c:UInt8) (r:List UInt8) (acc:List Tk) (h:isB c=false) (hw:yaD (yba (c::r)).1 ((c::r).take (yba (c::r)).2)≠0) :
  ya7 a (c::r) acc=([],a,yaD (yba (c::r)).1 ((c::r).take (yba (c::r)).2)):=by
 unfold ya7;rw [yb1,if_neg (by simp [h]),if_neg hw]
theorem yhC (l:List UInt8):∀ (a:Nat) (acc:List Tk),ya7 a l acc=ya7 (a+ycN isB l) (l.drop (ycN isB l)) acc:=by
 induction l with
 | nil=>intro a acc;rfl
 | cons c r ih =>
  intro a acc
  rw [yby]
  split
  ·rename_i h;rw [ydq a c r acc h,ih (a+1) acc,List.drop_succ_cons];congr 1;omega
  ·rfl
def yaH (s:List UInt8):List Tk×Nat×Nat:=if 2000 < s.length then ([],0,2) else ya7 0 s []
theorem ylu (k:Nat) (A:Int) (t:ByteArray) (w:World) (hs:t.size≤2000) (hk:k≤4) (h4:k=4→t.size≤2) :
  Calls Tryz.prog 40 #[.agg #[.int .i64 (k:Int),.int .i64 A,.string t]] w fun e w'=>e=.returned (.int .i64 (yaD k t.data.toList:Nat))∧Below w.heap.size w w':=by
 have hl:t.data.toList.length=t.size:=by simp
 match k,hk,h4 with
 | 0,_,_=>exact ylt A t w
 | 1,_,_ =>
  by_cases h:12 < t.size
  ·rw [show yaD 1 t.data.toList=2 by simp [yaD,h]];exact yg5 A t w hs h
  ·rw [show yaD 1 t.data.toList=0 by simp [yaD];omega];exact yjR A t w hs (by omega)
 | 2,_,_ =>
  by_cases h:9 < t.size
  ·rw [show yaD 2 t.data.toList=2 by simp [yaD,h]];exact yg6 A t w hs h
  ·by_cases h1:1 < t.size
   ·have hh:t.data.toList.head?=some t[0]:=by
     rw [List.head?_eq_getElem?,List.getElem?_eq_getElem (by simp;omega)];rfl
    cases hz:((t[0].toNat:Int) == 48)
    ·have hz':¬ t[0]=48:=by
      intro e;rw [e] at hz;revert hz;decide
     rw [show yaD 2 t.data.toList=0 by unfold yaD;rw [hh];simp [h,hz']];exact yjS A t w hs (by omega) h1 hz
    ·have hz':t[0]=48:=by
      apply UInt8.toNat_inj.1;have:=eq_of_beq hz;simp;omega
     rw [show yaD 2 t.data.toList=1 by unfold yaD;rw [hh];simp [h,h1,hz']];exact yfS A t w hs (by omega) h1 hz
   ·rw [show yaD 2 t.data.toList=0 by simp [yaD,h,h1]];exact yia A t w hs (by omega)
 | 3,_,_ =>
  by_cases h:22 < t.size
  ·rw [show yaD 3 t.data.toList=2 by simp [yaD,h]];exact yg7 A t w hs h
  ·rw [show yaD 3 t.data.toList=0 by simp [yaD,h]];exact yjT A t w hs (by omega)
 | 4,_,h4=>rw [show yaD 4 t.data.toList=0 by simp [yaD]];exact yjU A t w hs (h4 rfl)
theorem Tryz.info34:(Tryz.prog.info? 63).map (fun i=>(i.zero,i.size,i.bytes))=some (some (.agg #[.int .i64 0,.int .i64 0,.string ⟨#[]⟩]),3,32):=by kernel_rfl
theorem yne (s:ByteArray) (w:World) (hs:2000 < s.size) (hm:s.size≤9223372036854775000) :
  Calls Tryz.prog 15 #[.string s] w fun e w'=>e=.returned (.tuple #[.slice none 0 0,.int .i64 0,.int .i64 2])∧w'=w:=by
 go_enter Tryz.func15,Tryz.ntmps15
 go_wp2
 go_ret3
 exact ⟨rfl,rfl⟩
theorem yhF (s:ByteArray) (k:Nat) (acc:List Tk) (K N:Nat) (h:k < s.size) (hp:yba (s.data.toList.drop k)=(K,N)) (hB:isB s[k]=false) :
  (yaD K ((s.data.toList.drop k).take N)=0→ya7 k (s.data.toList.drop k) acc=ya7 (k+N) (s.data.toList.drop (k+N)) (acc++[⟨(K:Nat),(k:Nat),(s.data.toList.drop k).take N⟩])) ∧
  (yaD K ((s.data.toList.drop k).take N)≠0→ya7 k (s.data.toList.drop k) acc=([],k,yaD K ((s.data.toList.drop k).take N))):=by
 have hd:=ydl s k h
 rw [hd] at hp ⊢
 constructor
 ·intro hw
  have:=yet k s[k] (s.data.toList.drop (k+1)) acc hB (by rw [hp];exact hw)
  rw [this,hp,← hd,List.drop_drop]
 ·intro hw
  have:=yhB k s[k] (s.data.toList.drop (k+1)) acc hB (by rw [hp];exact hw)
  rw [this,hp]
theorem yhG (s:ByteArray) (k:Nat) (acc:List Tk):ya7 k (s.data.toList.drop k) acc=ya7 (yav isB s k) (s.data.toList.drop (yav isB s k)) acc:=by
 rw [yhC,List.drop_drop];rfl
theorem ygp (p:UInt8→Bool) (s:ByteArray) (k:Nat) (h:yav p s k < s.size):p s[yav p s k]=false:=by
 have hh:∀ (l:List UInt8) (x:UInt8),l[ycN p l]?=some x→p x=false:=by
  intro l
  induction l with
  | nil=>intro x h;simp at h
  | cons c r ih =>
   intro x h
   rw [yby] at h
   by_cases hc:p c=true
   ·rw [if_pos hc] at h;exact ih x (by simpa using h)
   ·rw [if_neg hc] at h;simp at h;subst h;simpa using hc
 apply hh (s.data.toList.drop k)
 rw [List.getElem?_drop,List.getElem?_eq_getElem (by simpa [yav] using h)];rfl
theorem ycz {w w':World} {base:Nat} {e:TypeId} {size:Nat} {v:Value} {n:Nat} {xs:List Value} (h:w.ownsRow base e size v n xs) (hb:Below w.heap.size w w'):w'.ownsRow base e size v n xs :=
 h.kept (row:=none) ⟨hb.os,hb.tape,hb.output,hb.size,fun k hk _=>hb.block k hk⟩ (by cases hv:v.ownBlock <;> simp)
theorem ygO (s:ByteArray) (a:Nat) (i:Int) (w:World) (hi:i=(a:Int)) (hs:s.size≤9223372036854775000) (ha:a≤s.size) :
  Calls Tryz.prog 37 #[.string s,.int .i64 i,.func (.func 38) #[] #[]] w fun e w'=>e=.returned (.int .i64 (yav isB s a:Nat))∧w'=w:=by
 subst hi;exact ygo s a w hs ha
theorem ydN {w w':World} {row:Option Nat} (hg:w.grownBy w' row) {b o:Nat} (hb:b < w.heap.size) (hr:some b≠row):w'.cell? ⟨b,o,none⟩=w.cell? ⟨b,o,none⟩ :=
 World.cell?_of_block (w:=w) (hg.block b hb hr)
theorem ya2 {w:World} (o:Obj) {b i:Nat} (h:b < w.heap.size):(w.alloc o).cell? ⟨b,i,none⟩=w.cell? ⟨b,i,none⟩ :=
 ((Below.refl w.heap.size w).alloc (Nat.le_refl _) o).cell (p:=⟨b,i,none⟩) h
theorem ykI (s:ByteArray) (w:World) (hs:s.size≤2000) :
  Calls Tryz.prog 15 #[.string s] w fun e w'=>∃ v,e=.returned (.tuple #[v,.int .i64 ((ya7 0 s.data.toList []).2.1:Nat),.int .i64 ((ya7 0 s.data.toList []).2.2:Nat)]) ∧
   w'.ownsRow w.heap.size 63 3 v (ya7 0 s.data.toList []).1.length (ybM (ya7 0 s.data.toList []).1)∧Below w.heap.size w w':=by
 obtain ⟨i0,hi,hz0,hz1,hz2⟩:=info_parts Tryz.info34
 have hbs:decide ((2000:Int) < (s.size:Int))=false:=by simp;omega
 have hb0:=ye8 isB s 0 (by omega)
 have hst:=yhG s 0 []
 simp only [List.drop_zero] at hst
 have HS:Hid (ya7 0 s.data.toList []=ya7 (yav isB s 0) (List.drop (yav isB s 0) s.data.toList) []):=hst
 clear hst
 have HT:Hid (∀ h:yav isB s 0 < s.size,isB s[yav isB s 0]=false):=ygp isB s 0
 go_enter Tryz.func15,Tryz.ntmps15
 go_wp2_with (go_at_call 37;refine (ygo s 0 _ (by omega) (by omega)).mono ?_;rintro e w' ⟨rfl,hw'⟩;obtain rfl:=hw'.symm;clear hw')
 go_loopw [5,6] (fun v i wr=>∃ (k:Nat) (acc:List Tk),k≤s.size∧i=.int .i64 k∧wr.ownsRow w.heap.size 63 3 v acc.length (ybM acc)∧Below w.heap.size w wr∧acc.length≤k ∧
   Hid (ya7 k (s.data.toList.drop k) acc=ya7 0 s.data.toList [])∧Hid ((h:k < s.size)→isB s[k]=false)) (fun _ i _=>s.size - (intOf i).toNat)
 case atStart =>
  exact ⟨_,[],hb0,rfl,World.ownsRow_nil _ _ _ _,Below.refl _ _,Nat.zero_le _,HS.out.symm,HT⟩
 case round =>
  obtain ⟨k,acc,hk,rfl,hown,hnx,hacc,HE,HB⟩:=hrel
  clear HS HT hb0
  by_cases hlt:k < s.size
  ·have hsz:=hnx.size
   obtain ⟨K,N,hp⟩:∃ K N,yba (s.data.toList.drop k)=(K,N):=⟨_,_,rfl⟩
   have hk4:=(ydJ (s.data.toList.drop k)).1
   have hk5:=(ydJ (s.data.toList.drop k)).2
   have hnl:=ygQ (s.data.toList.drop k)
   have hn:=ypf s k wr hs hlt
   obtain ⟨g0,g1⟩:=yhF s k acc K N hlt hp (HB.out hlt)
   rw [HE.out] at g0 g1
   have hpos:K≠0→1≤N:=by
    have:=ydr s[k] (s.data.toList.drop (k+1))
    rw [← ydl s k hlt,hp] at this;exact this
   rw [ydu,hp] at hn
   rw [hp] at hk4 hk5 hnl
   simp only [List.length_drop] at hnl hk4 hk5
   have hnl':N≤s.size - k:=by simpa using hnl
   clear hnl hp HB HE
   by_cases hK:K=0
   ·subst hK
    simp only [if_true] at hn
    have G:=g1 (by simp [yaD])
    have HG:Hid (ya7 0 s.data.toList []=([],k,1)):=G.trans (by simp [yaD])
    clear G g0 g1 hk5 hpos hk4 hnl'
    go_wp2_with (first|(go_at_call 39;refine hn.mono ?_;rintro e w1 ⟨rfl,hb1⟩)|(go_at_call 40;refine (ylt _ _ _).mono ?_;rintro e w2 ⟨rfl,hb2⟩))
    go_ret3
    refine ⟨.slice none 0 0,by rw [HG.out];rfl,by rw [HG.out];exact World.ownsRow_nil _ _ _ _, ?_⟩
    exact hnx.trans ((((hb1.mono hsz).alloc (by have:=hb1.size;omega) _).trans (hb2.mono (by have:=hb1.size;simp;omega))))
   ·simp only [hK,if_false] at hn
    obtain ⟨T,hT⟩:∃ T,T=s.extract k (k+N):=⟨_,rfl⟩
    have hTs:T.size=N:=by rw [hT];simp;omega
    have hTl:T.data.toList=(s.data.toList.drop k).take N:=by rw [hT,Lib.extract_data];congr 1;omega
    rw [← hT] at hn
    rw [← hTl] at g0 g1
    have hf:=fun (A:Int) (W:World)=>ylu K A T W (by omega) hk4 (by omega)
    obtain ⟨E,hE⟩:∃ E,yaD K T.data.toList=E:=⟨_,rfl⟩
    rw [hE] at g0 g1 hf
    have hN1:=hpos hK
    clear hE hT hTl hpos hk5 hK
    have HT:Hid (T.size=N):=hTs
    have hTs2:T.size≤s.size - k:=by omega
    have hTs1:1≤T.size:=by omega
    clear hTs
    by_cases hE0:E=0
    ·subst hE0
     have g0':Hid (ya7 0 s.data.toList []=ya7 (k+N) (s.data.toList.drop (k+N)) (acc++[⟨(K:Nat),(k:Nat),T.data.toList⟩])):=g0 rfl
     clear g0 g1
     go_wp2_with (first|(go_at_call 39;refine hn.mono ?_;rintro e w1 ⟨rfl,hb1⟩)|(go_at_call 40;refine (hf _ _).mono ?_;rintro e w2 ⟨rfl,hb2⟩;have c0:w2.cell? ⟨w1.heap.size,0,none⟩=some (.int .i64 (K:Nat)):=(hb2.cell (by simp)).trans (by simp);have c1:w2.cell? ⟨w1.heap.size,1,none⟩=some (.int .i64 (k:Nat)):=(hb2.cell (by simp)).trans (by simp);have c2:w2.cell? ⟨w1.heap.size,2,none⟩=some (.string T):=(hb2.cell (by simp)).trans (by simp))|(at_builtin;refine wpList_append_own _ rfl _ _ 40 rfl w.heap.size 63 i0 (.agg #[.int .i64 0,.int .i64 0,.string ⟨#[]⟩]) 3 32 Tryz.underlying40 hi hz0 hz1 hz2 rfl (by decide) _ _ _ rfl ((ycz ((ycz hown hb1).alloc _) hb2).alloc _) ⟨w2.heap.size,0,none⟩ 1 1 [.int .i64 (K:Nat),.int .i64 (k:Nat),.string T] rfl rfl ?c1 ?c2 ?c3 ?c4 ?c5 ?_))
     case c1 =>
      intro j u hj
      match j,hj with
      | 0,hj=>simp at hj;subst hj;simp [Addr.add]
      | 1,hj=>simp at hj;subst hj;simp [Addr.add]
      | 2,hj=>simp at hj;subst hj;simp [Addr.add]
     case c2=>intro u hu;simp at hu;rcases hu with rfl|rfl|rfl <;> rfl
     case c3=>unfold maxLen;omega
     case c4=>omega
     case c5=>have:=hb1.size;have:=hb2.size;simp at this ⊢;omega
     intro v' w3 hown' hgrow _
     have s1:=hb1.size
     have s2:w1.heap.size+1≤w2.heap.size:=by have:=hb2.size;simpa using this
     have hlt5:=hown.lt
     have hc3:w3.cell? ⟨w1.heap.size,2,none⟩=some (.string T):=(ydN hgrow (by simp;omega) (by intro e;have:=(hlt5 _ e.symm).2;omega)).trans ((ya2 _ (by omega)).trans c2)
     have hB3:Below w.heap.size w w3:=(((hnx.trans (((hb1.mono hsz).alloc (by omega) _).trans (hb2.mono (by simp;omega)))).alloc (by omega) _).grown hgrow (by simp;omega) (fun j hj=>(hlt5 j hj).1))
     have hle:=ye8 isB s (k+N) (by omega)
     have hge:=ycV isB s (k+N)
     have R1:Hid (ya7 (yav isB s (k+N)) (s.data.toList.drop (yav isB s (k+N))) (acc++[⟨(K:Nat),(k:Nat),T.data.toList⟩])=ya7 0 s.data.toList []):=((g0'.out).trans (yhG s (k+N) _)).symm
     have R2:Hid (∀ h:yav isB s (k+N) < s.size,isB s[yav isB s (k+N)]=false):=ygp isB s (k+N)
     have R3:w3.ownsRow w.heap.size 63 3 v' (acc++[(⟨(K:Nat),(k:Nat),T.data.toList⟩:Tk)]).length (ybM (acc++[⟨(K:Nat),(k:Nat),T.data.toList⟩])):=by
      rw [yfc,List.length_append];exact hown'
     clear hown' hgrow hown g0' c0 c1 c2 hb1 hb2 hn hf hlt5
     go_wp2_with (go_at_call 37;refine (ygO s (k+N) _ _ (by have:=HT.out;omega) (by omega) (by omega)).mono ?_;rintro e w' ⟨rfl,hw'⟩;obtain rfl:=hw'.symm;clear hw')
     go_roundw
     case rel=>exact ⟨yav isB s (k+N),_,hle,rfl,R3,hB3,by simp;omega,R1,R2⟩
     case measure=>simp [intOf];omega
    ·have hEb:((E:Int) != 0)=true:=by simp;omega
     have HG:Hid (ya7 0 s.data.toList []=([],k,E)):=g1 hE0
     clear g0 g1 hE0
     go_wp2_with (first|(go_at_call 39;refine hn.mono ?_;rintro e w1 ⟨rfl,hb1⟩)|(go_at_call 40;refine (hf _ _).mono ?_;rintro e w2 ⟨rfl,hb2⟩))
     go_ret3
     refine ⟨.slice none 0 0,by rw [HG.out];rfl,by rw [HG.out];exact World.ownsRow_nil _ _ _ _, ?_⟩
     exact hnx.trans ((((hb1.mono hsz).alloc (by have:=hb1.size;omega) _).trans (hb2.mono (by have:=hb1.size;simp;omega))))
  ·have hks:k=s.size:=by omega
   have hd:s.data.toList.drop k=[]:=List.drop_eq_nil_of_le (by simp;omega)
   have HG:Hid (ya7 0 s.data.toList []=(acc,0,0)):=by rw [← HE.out,hd];rfl
   clear hd hks HE HB
   go_wp2
   go_ret3
   exact ⟨_,by rw [HG.out];rfl,by rw [HG.out];exact hown,hnx⟩
theorem Tryz.infoB5:(Tryz.prog.info? 5).map (fun i=>(i.zero,i.size,i.bytes))=some (some (.int .u8 0),1,1):=by kernel_rfl
theorem Tryz.sizeB45:(Tryz.prog.info? 71).map (·.size)=some 2:=by kernel_rfl
theorem Tryz.liesB45:liesAt Tryz.prog Tryz.prog.depth 71 (2 / Tryz.prog.cellsOf 71) 0 71 1=true:=by kernel_rfl
theorem ydZ (b:Nat) (w:World) (h0:w.cell? ⟨b,0,none⟩=some (.pointer (some ⟨b,0,none⟩))) :
  Calls Tryz.prog 93 #[.pointer (some ⟨b,0,none⟩)] w fun e w'=>e=.returned (.tuple #[])∧w'=w:=by
 obtain ⟨j,hj,_⟩:=Option.map_eq_some_iff.1 Tryz.sizeB45
 go_enter Tryz.func93,Tryz.ntmps93
 go_wp2
 rw [Lib.run_neq_ptr_same w _ Tryz.underlying68 hj]
 go_wp2
 go_end0
 exact ⟨rfl,rfl⟩
theorem yfi (b:Nat) (w:World) (h0:w.cell? ⟨b,0,none⟩=some (.pointer none)) (hsh:w.shape? b=some (71,2)) (hfz:w.frozen? ⟨b,0,none⟩=false) :
  Calls Tryz.prog 93 #[.pointer (some ⟨b,0,none⟩)] w fun e w'=>e=.returned (.tuple #[])∧w'=w.setCell ⟨b,0,none⟩ (.pointer (some ⟨b,0,none⟩)):=by
 obtain ⟨j,hj,hjs⟩:=Option.map_eq_some_iff.1 Tryz.sizeB45
 go_enter Tryz.func93,Tryz.ntmps93
 go_wp2
 rw [Lib.run_to_unsafe w ⟨b,0,none⟩ Tryz.underlying68 Tryz.underlying132 hj (by rw [hjs];decide) hsh (Nat.zero_lt_succ 1)]
 simp only [Result.andThen]
 rw [Oper.upon_value]
 go_wp2
 rw [run_callFunc_extern Tryz.func133 (by kernel_rfl) (by kernel_rfl) (by kernel_rfl) (e:=Extern.AbiNoEscape.same) (by kernel_rfl)]
 rw [Lib.run_noEscape]
 simp only [Result.andThen]
 rw [Oper.upon_value]
 go_wp2
 rw [Lib.run_from_unsafe w ⟨b,0,none⟩ Tryz.underlying132 Tryz.underlying68 hj hsh Tryz.liesB45]
 simp only [Result.andThen]
 rw [Oper.upon_value]
 go_wp2
 go_end0
 exact ⟨rfl,rfl⟩
theorem yed (B b:Nat) (bs:List Value) (w:World) (h:Lib.IsBuilder 71 5 B b bs w) :
  Calls Tryz.prog 93 #[.pointer (some ⟨b,0,none⟩)] w fun e w'=>e=.returned (.tuple #[])∧Lib.BuilderAt 71 5 B b (.pointer (some ⟨b,0,none⟩)) bs w'∧Below B w w'∧Lib.OthersKept 5 (some b) w w':=by
 rcases h with h|h
 ·refine (yfi b w h.cell0 h.shape h.frozen0).mono ?_
  rintro e w' ⟨rfl,rfl⟩
  exact ⟨rfl,h.used _,(Below.refl B w).setCell (p:=⟨b,0,none⟩) h.1 _,(Lib.OthersKept.refl 5 (some b) w).setCell ⟨b,0,none⟩ rfl _⟩
 ·refine (ydZ b w h.cell0).mono ?_
  rintro e w' ⟨rfl,rfl⟩
  exact ⟨rfl,h,Below.refl B _,Lib.OthersKept.refl 5 (some b) _⟩
theorem ycK {w:World} {B:Nat} {e:TypeId} {v:Value} {n:Nat} {xs:List Value} (h:w.ownsRow B e 1 v n xs):∀ g,v.ownBlock=some g→∃ c fz,w.heap[g]?=some (.cells c e fz):=by
 intro g hg
 rcases h.2 with ⟨rfl,_⟩|⟨g',cap,cur,rfl,_,hgg,_⟩
 ·simp [Value.ownBlock] at hg
 ·simp [Value.ownBlock] at hg
  subst hg
  exact ⟨cur,_,hgg⟩
theorem ygW (B b:Nat) (bs:List Value) (c:Int) (w:World) (h:Lib.IsBuilder 71 5 B b bs w) (hlen:bs.length+1≤140737488355328) (hBw:B≤w.heap.size) :
  Calls Tryz.prog 42 #[.pointer (some ⟨b,0,none⟩),.int .u8 c] w fun e w'=>e=.returned .nilIface∧Lib.BuilderAt 71 5 B b (.pointer (some ⟨b,0,none⟩)) (bs++[.int .u8 c]) w'∧Below B w w'∧Lib.OthersKept 5 (some b) w w':=by
 obtain ⟨i0,hi,hz0,hz1,hz2⟩:=info_parts Tryz.infoB5
 go_enter Tryz.func42,Tryz.ntmps42
 go_wp2_with (go_at_call 93;refine (yed B b bs _ h).mono ?_)
 rintro e w1 ⟨rfl,h1,hb1,ho1⟩
 obtain ⟨hB,v,hbk,hown,hne⟩:=h1
 have c0:w1.cell? ⟨b,0,none⟩=some (.pointer (some ⟨b,0,none⟩)):=by rw [Lib.cell_of_heap hbk];rfl
 have c1:w1.cell? ⟨b,1,none⟩=some v:=by rw [Lib.cell_of_heap hbk];rfl
 go_wp2_with (at_builtin;refine wpList_append_own _ rfl _ _ 69 rfl B 5 i0 (.int .u8 0) 1 1 Tryz.underlying69 hi hz0 hz1 hz2 rfl (by decide) _ _ _ rfl (hown.alloc _) ⟨w1.heap.size,0,none⟩ 1 1 [.int .u8 c] rfl rfl ?c1 ?c2 ?c3 ?c4 ?c5 ?_)
 case c1 =>
  intro j u hj
  match j,hj with
  | 0,hj=>simp at hj;subst hj;simp [Addr.add]
 case c2=>intro u hu;simp at hu;subst hu;rfl
 case c3=>unfold maxLen;omega
 case c4=>omega
 case c5=>have:=hb1.size;simp;omega
 intro v' w2 hown' hgrow _
 have hlt:b < w1.heap.size:=by
  rcases Nat.lt_or_ge b w1.heap.size with h'|h'
  ·exact h'
  ·simp [Array.getElem?_eq_none h'] at hbk
 have hb2:w2.heap[b]?=some (.cells #[.pointer (some ⟨b,0,none⟩),v] 71 (0,0)):=by
  rw [hgrow.block b (by simp;omega) (fun e=>hne e.symm),Lib.alloc_old w1 _ b hlt]
  exact hbk
 have d0:w2.cell? ⟨b,0,none⟩=some (.pointer (some ⟨b,0,none⟩)):=by rw [Lib.cell_of_heap hb2];rfl
 have d1:w2.cell? ⟨b,1,none⟩=some v:=by rw [Lib.cell_of_heap hb2];rfl
 have f1:w2.frozen? ⟨b,1,none⟩=false:=Lib.frozen_of_heap hb2 1
 obtain ⟨g,cap,rfl⟩:∃ g cap,v'=.slice (some ⟨g,0,none⟩) (bs.length+1) cap:=by
  rcases hown'.2 with ⟨_,h0⟩|⟨g,cap,cur,hv,_⟩
  ·omega
  ·exact ⟨g,cap,hv⟩
 go_wp2
 go_ret
 refine ⟨rfl, ?_, ?_, ?_⟩
 ·exact Lib.BuilderAt.put (T:=71) (e:=5) hB hb2 (bs':=bs++[.int .u8 c]) (by simpa using hown') (by decide)
 ·exact ((hb1.alloc (by have:=hb1.size;omega) _).grown hgrow (by have:=hb1.size;simp;omega) (fun k hk=>(hown.lt k hk).1)).setCell (p:=⟨b,1,none⟩) hB _
 ·exact ((ho1.alloc _).grown hgrow (ycK (hown.alloc _))).setCell ⟨b,1,none⟩ rfl _
theorem ydL (B b:Nat) (bs:List Value) (s:ByteArray) (w:World) (h:Lib.IsBuilder 71 5 B b bs w) (hlen:bs.length+s.size≤140737488355328) (hBw:B≤w.heap.size) :
  Calls Tryz.prog 43 #[.pointer (some ⟨b,0,none⟩),.string s] w fun e w'=>e=.returned (.tuple #[.int .i64 s.size,.nilIface])∧Lib.BuilderAt 71 5 B b (.pointer (some ⟨b,0,none⟩)) (bs++Lib.strCells s) w'∧Below B w w'∧Lib.OthersKept 5 (some b) w w':=by
 obtain ⟨i0,hi,hz0,hz1,hz2⟩:=info_parts Tryz.infoB5
 go_enter Tryz.func43,Tryz.ntmps43
 go_wp2_with (go_at_call 93;refine (yed B b bs _ h).mono ?_)
 rintro e w1 ⟨rfl,h1,hb1,ho1⟩
 obtain ⟨hB,v,hbk,hown,hne⟩:=h1
 have c0:w1.cell? ⟨b,0,none⟩=some (.pointer (some ⟨b,0,none⟩)):=by rw [Lib.cell_of_heap hbk];rfl
 have c1:w1.cell? ⟨b,1,none⟩=some v:=by rw [Lib.cell_of_heap hbk];rfl
 go_wp2_with (at_builtin;refine Lib.wpList_append_own_string _ rfl _ _ 69 9 rfl B 5 i0 Tryz.underlying69 Tryz.underlying9 hi hz0 hz1 hz2 _ _ _ rfl hown s rfl ?c3 ?c4 ?c5 ?_)
 case c3=>unfold maxLen;omega
 case c4=>omega
 case c5=>have:=hb1.size;omega
 intro v' w2 hown' hgrow _
 have hlt:b < w1.heap.size:=by
  rcases Nat.lt_or_ge b w1.heap.size with h'|h'
  ·exact h'
  ·simp [Array.getElem?_eq_none h'] at hbk
 have hb2:w2.heap[b]?=some (.cells #[.pointer (some ⟨b,0,none⟩),v] 71 (0,0)):=by
  rw [hgrow.block b hlt (fun e=>hne e.symm)]
  exact hbk
 have d0:w2.cell? ⟨b,0,none⟩=some (.pointer (some ⟨b,0,none⟩)):=by rw [Lib.cell_of_heap hb2];rfl
 have d1:w2.cell? ⟨b,1,none⟩=some v:=by rw [Lib.cell_of_heap hb2];rfl
 have f1:w2.frozen? ⟨b,1,none⟩=false:=Lib.frozen_of_heap hb2 1
 obtain ⟨ao,n',cap,rfl⟩:∃ ao n' cap,v'=.slice ao n' cap:=by
  rcases hown'.2 with ⟨hv,_⟩|⟨g,cap,cur,hv,_⟩
  ·exact ⟨_,_,_,hv⟩
  ·exact ⟨_,_,_,hv⟩
 go_wp2
 go_ret2
 refine ⟨rfl, ?_, ?_, ?_⟩
 ·exact Lib.BuilderAt.put (T:=71) (e:=5) hB hb2 (bs':=bs++Lib.strCells s) (by simpa [Lib.strCells_length] using hown') (by decide)
 ·exact (hb1.grown hgrow (by have:=hb1.size;omega) (fun k hk=>(hown.lt k hk).1)).setCell (p:=⟨b,1,none⟩) hB _
 ·exact (ho1.grown hgrow (ycK hown)).setCell ⟨b,1,none⟩ rfl _
theorem ybV {w:World} {base:Nat} {e:TypeId} {size:Nat} {v:Value} {n:Nat} {xs:List Value} (h:w.ownsRow base e size v n xs):∃ ao cap,v=.slice ao n cap:=by
 rcases h.2 with ⟨hv,h0⟩|⟨g,cap,cur,hv,_⟩
 ·exact ⟨none,0,by rw [hv,h0]⟩
 ·exact ⟨_,_,hv⟩
theorem yen {w:World} {base:Nat} {e:TypeId} {size:Nat} {v:Value} {n:Nat} {xs:List Value} (h:w.ownsRow base e size v n xs) (hn:n≠0):∃ g cap,v=.slice (some ⟨g,0,none⟩) n cap∧base≤g∧g < w.heap.size:=by
 rcases h.2 with ⟨hv,h0⟩|⟨g,cap,cur,hv,hb,hg,_⟩
 ·exact absurd h0 hn
 ·exact ⟨g,cap,hv,hb,(ltS hg)⟩
theorem ydU (s:ByteArray) (w:World) (hm:s.size≤9223372036854775000) :
  Calls Tryz.prog 15 #[.string s] w fun e w'=>∃ v,e=.returned (.tuple #[v,.int .i64 ((yaH s.data.toList).2.1:Nat),.int .i64 ((yaH s.data.toList).2.2:Nat)]) ∧
   w'.ownsRow w.heap.size 63 3 v (yaH s.data.toList).1.length (ybM (yaH s.data.toList).1)∧Below w.heap.size w w':=by
 have hl:s.data.toList.length=s.size:=by simp
 by_cases h:2000 < s.size
 ·refine (yne s w h hm).mono ?_
  rintro e w' ⟨rfl,rfl⟩
  have:yaH s.data.toList=([],0,2):=by unfold yaH;rw [if_pos (by omega)]
  rw [this]
  exact ⟨_,rfl,World.ownsRow_nil _ _ _ _,Below.refl _ _⟩
 ·have:yaH s.data.toList=ya7 0 s.data.toList []:=by unfold yaH;rw [if_neg (by omega)]
  rw [this]
  exact ykI s w (by omega)
theorem Tryz.fields34:(Tryz.prog.fieldsOf 63).toList.map (fun f=>(f.name,f.type,f.offset))=[("Kind",3,0),("At",3,1),("Text",9,2)]:=by kernel_rfl
theorem Tryz.under34:Tryz.prog.underlying 63=some (.struct (Tryz.prog.fieldsOf 63)):=by kernel_rfl
theorem Tryz.stood34:Tryz.prog.stoodInHeld 63=false:=by kernel_rfl
theorem ydA {l:List Field} {a b c:String} {i j k m n o:Nat} (h:l.map (fun f=>(f.name,f.type,f.offset))=[(a,i,j),(b,k,m),(c,n,o)]) :
  ∃ f0 f1 f2:Field,l=[f0,f1,f2]∧f0.name=a∧f0.type=i∧f0.offset=j∧f1.name=b∧f1.type=k∧f1.offset=m∧f2.name=c∧f2.type=n∧f2.offset=o:=by
 obtain ⟨f0,l1,rfl,h0,h1⟩:=List.map_eq_cons_iff.1 h
 obtain ⟨f1,l2,rfl,h2,h3⟩:=List.map_eq_cons_iff.1 h1
 obtain ⟨f2,l3,rfl,h4,h5⟩:=List.map_eq_cons_iff.1 h3
 have h6:=List.map_eq_nil_iff.1 h5
 subst h6
 simp only [Prod.mk.injEq] at h0 h2 h4
 exact ⟨f0,f1,f2,rfl,h0.1,h0.2.1,h0.2.2,h2.1,h2.2.1,h2.2.2,h4.1,h4.2.1,h4.2.2⟩
def ydG (k a:Int) (t:ByteArray) (k' a':Int) (t':ByteArray):Bool:=(k == k')&&(a == a')&&(t.toList == t'.toList)
theorem ytE (k a k' a':Int) (t t':ByteArray) (w:World) :
  (binOp .eql 63 (.agg #[.int .i64 k,.int .i64 a,.string t]) (.agg #[.int .i64 k',.int .i64 a',.string t'])).run Tryz.prog w=.ok (.bool (ydG k a t k' a' t')) w:=by
 rw [run_eql_struct,run_equalIn_struct w 9999 63 _ _ Tryz.under34 Tryz.stood34]
 obtain ⟨f0,f1,f2,hf,n0,t0,o0,n1,t1,o1,n2,t2,o2⟩:=ydA Tryz.fields34
 rw [hf]
 simp [Op.eqFields,n0,t0,o0,n1,t1,o1,n2,t2,o2,go_sem]
 unfold ydG
 by_cases h1:k=k' <;> by_cases h2:a=a' <;> by_cases h3:t.toList=t'.toList <;> simp [h1,h2,h3]
def ybk (K:Int) (l:List UInt8):Bool :=
 match yaH l with
 | ([x],_,0)=>decide (x.k=K∧x.a=0∧x.t=l)
 | _=>false
theorem yk6 (K A:Int) (t:ByteArray) (w:World) (hm:t.size≤9223372036854775000) (L:List Tk) (at_ E:Nat) (hr:yaH t.data.toList=(L,at_,E)) (hE:E≠0) :
  Calls Tryz.prog 41 #[.agg #[.int .i64 K,.int .i64 A,.string t]] w fun e w'=>e=.returned (.bool false)∧Below w.heap.size w w':=by
 have hs:=fun W=>ydU t W hm
 rw [hr] at hs
 have hEb:((E:Int) == 0)=false:=by simp;omega
 clear hr hE
 go_enter Tryz.func41,Tryz.ntmps41
 go_wp2_with (go_at_call 15;refine (hs _).mono ?_;rintro e w1 ⟨v,rfl,hown,hb1⟩)
 go_quiet (fail)
 go_wp2
 go_ret
 exact ⟨rfl,below_drewN (((Below.refl _ _).alloc (Nat.le_refl _) _).trans (hb1.mono (by simp))) _⟩
theorem yf0 (K A:Int) (t:ByteArray) (w:World) (hm:t.size≤9223372036854775000) (L:List Tk) (at_:Nat) (hr:yaH t.data.toList=(L,at_,0)) (hL:L.length≠1) :
  Calls Tryz.prog 41 #[.agg #[.int .i64 K,.int .i64 A,.string t]] w fun e w'=>e=.returned (.bool false)∧Below w.heap.size w w':=by
 have hs:=fun W=>ydU t W hm
 rw [hr] at hs
 have hEb:((L.length:Int) == 1)=false:=by simp;omega
 clear hr hL
 go_enter Tryz.func41,Tryz.ntmps41
 go_wp2_with (go_at_call 15;refine (hs _).mono ?_;rintro e w1 ⟨v,rfl,hown,hb1⟩;obtain ⟨ao,cap,hv⟩:=ybV hown;subst hv;clear hown)
 go_quiet (fail)
 go_wp2
 go_ret
 exact ⟨rfl,below_drewN (((Below.refl _ _).alloc (Nat.le_refl _) _).trans (hb1.mono (by simp))) _⟩
theorem yk7 (K A:Int) (t:ByteArray) (w:World) (hm:t.size≤9223372036854775000) (x:Tk) (at_:Nat) (hr:yaH t.data.toList=([x],at_,0)) :
  Calls Tryz.prog 41 #[.agg #[.int .i64 K,.int .i64 A,.string t]] w fun e w'=>e=.returned (.bool (decide (x.k=K∧x.a=0∧x.t=t.data.toList)))∧Below w.heap.size w w':=by
 have hs:=fun W=>ydU t W hm
 rw [hr] at hs
 clear hr
 obtain ⟨xk,xa,xt⟩:=x
 simp only [List.length_cons,List.length_nil,Nat.zero_add,ybM,List.flatMap_cons,List.flatMap_nil,List.append_nil,Tk.cells] at hs ⊢
 have hq:=ytE
 go_enter Tryz.func41,Tryz.ntmps41
 go_wp2_with (go_at_call 15;refine (hs _).mono ?_)
 rintro e w1 ⟨v,rfl,hown,hb1⟩
 obtain ⟨g,cap,hv,hg1,hg2⟩:=yen hown (by decide)
 rw [hv] at hown
 have c0:w1.cell? ⟨g,0,none⟩=some (.int .i64 xk):=hown.cellAt 0 (by decide)
 have c1:w1.cell? ⟨g,1,none⟩=some (.int .i64 xa):=hown.cellAt 1 (by decide)
 have c2:w1.cell? ⟨g,2,none⟩=some (.string ⟨xt.toArray⟩):=hown.cellAt 2 (by decide)
 have d0:w1.cell? ⟨w.heap.size,0,none⟩=some (.int .i64 K):=(hb1.cell (by simp)).trans (by simp)
 have d2:w1.cell? ⟨w.heap.size,2,none⟩=some (.string t):=(hb1.cell (by simp)).trans (by simp)
 rw [hv]
 clear hv hown
 go_wp2
 go_quiet (fail)
 go_wp2
 go_ret
 refine ⟨yaF ?_,below_drewN (((Below.refl _ _).alloc (Nat.le_refl _) _).trans (hb1.mono (by simp))) _⟩
 unfold ydG
 rw [show (⟨xt.toArray⟩:ByteArray).toList=xt by rw [Lib.toList_data],Lib.toList_data,Bool.eq_iff_iff]
 simp [and_assoc]
theorem yk5 (K A:Int) (t:ByteArray) (w:World) (hm:t.size≤9223372036854775000) :
  Calls Tryz.prog 41 #[.agg #[.int .i64 K,.int .i64 A,.string t]] w fun e w'=>e=.returned (.bool (ybk K t.data.toList))∧Below w.heap.size w w':=by
 obtain ⟨L,a,E,hr⟩:∃ L a E,yaH t.data.toList=(L,a,E):=⟨_,_,_,rfl⟩
 by_cases hE:E=0
 ·subst hE
  match L,hr with
  | [x],hr =>
   rw [show ybk K t.data.toList=decide (x.k=K∧x.a=0∧x.t=t.data.toList) by unfold ybk;rw [hr];rfl]
   exact yk7 K A t w hm x a hr
  | [],hr =>
   rw [show ybk K t.data.toList=false by unfold ybk;rw [hr]]
   exact yf0 K A t w hm _ a hr (by simp)
  | x::y::r,hr =>
   rw [show ybk K t.data.toList=false by unfold ybk;rw [hr]]
   exact yf0 K A t w hm _ a hr (by simp)
 ·rw [show ybk K t.data.toList=false by unfold ybk;rw [hr];split <;> simp_all]
  exact yk6 K A t w hm L a E hr hE
def ycI:List Tk→List UInt8
 | []=>[]
 | [x]=>x.t
 | x::y::r=>x.t++32::ycI (y::r)
theorem yf8 (L:List Tk) (x:Tk) (h:L≠[]):ycI (L++[x])=ycI L++32::x.t:=by
 induction L with
 | nil=>exact absurd rfl h
 | cons y r ih =>
  cases r with
  | nil=>rfl
  | cons z r =>
   have:=ih (by simp)
   simp only [List.cons_append] at this ⊢
   rw [ycI,this,ycI];simp
def yfp (L:List Tk):List UInt8×Nat :=
 if L.all (fun x=>ybk x.k x.t)=true then (if 2000 < (ycI L).length then ([],2) else (ycI L,0)) else ([],1)
theorem yaN (l:List UInt8):(⟨l.toArray⟩:ByteArray).size=l.length:=by show l.toArray.size=_;simp
theorem yds (a b:List UInt8):Lib.byteCells (a++b)=Lib.byteCells a++Lib.byteCells b:=by simp [Lib.byteCells]
def yk4 (w:World) (b off n:Nat) (L:List Tk):Prop :=
 L.length=n∧∀ i x,L[i]?=some x→w.cell? ⟨b,off+i*3,none⟩=some (.int .i64 x.k)∧w.cell? ⟨b,off+i*3+1,none⟩=some (.int .i64 x.a)∧w.cell? ⟨b,off+i*3+2,none⟩=some (.string ⟨x.t.toArray⟩)
theorem ydj {T e:TypeId} {B b:Nat} {bs:List Value} {w w':World} (h:Lib.IsBuilder T e B b bs w) (hb:Below w.heap.size w w'):Lib.IsBuilder T e B b bs w':=by
 have go:∀ p,Lib.BuilderAt T e B b p bs w→Lib.BuilderAt T e B b p bs w':=by
  rintro p ⟨hB,v,hbk,hown,hne⟩
  exact ⟨hB,v,(hb.block b (ltS hbk)).trans hbk,ycz hown hb,hne⟩
 rcases h with h|h
 ·exact .inl (go _ h)
 ·exact .inr (go _ h)
theorem ygq (L:List Tk) (k:Nat) (x:Tk) (h:L[k]?=some x):L.take (k+1)=L.take k++[x]:=by
 rw [List.take_succ_eq_append_getElem (List.getElem?_eq_some_iff.1 h).1]
 simp [(List.getElem?_eq_some_iff.1 h).2]
theorem ygm (f:Nat):∀ (a:Nat) (l:List UInt8) (acc:List Tk),(∀ x ∈ acc,x.t.length≤22)→∀ x ∈ (yb1 f a l acc).1,x.t.length≤22:=by
 induction f with
 | zero=>intro a l acc h;exact h
 | succ f ih =>
  intro a l acc h
  cases l with
  | nil=>exact h
  | cons c r =>
   rw [yb1]
   split
   ·exact ih _ _ _ h
   ·split
    ·rename_i hw
     apply ih
     intro x hx
     rcases List.mem_append.1 hx with hx|hx
     ·exact h x hx
     ·simp at hx
      subst hx
      have h4:=ydJ (c::r)
      have hz:=ycf hw
      generalize yba (c::r)=p at *
      obtain ⟨K,N⟩:=p
      simp only at *
      unfold yaD at hw
      simp only [hz,if_false] at hw
      have hN:(List.take N (c::r)).length≤N:=List.length_take_le _ _
      generalize List.take N (c::r)=T at *
      split at hw
      ·cases hw
      ·rename_i hn
       show T.length≤22
       omega
    ·intro x hx;cases hx
theorem yfb {K:Int} {l:List UInt8} (h:ybk K l=true):l.length≤22:=by
 unfold ybk at h
 split at h
 ·rename_i x _ hs
  simp at h
  have hx:∀ y ∈ (yaH l).1,y.t.length≤22:=by
   unfold yaH
   split
   ·intro y hy;cases hy
   ·exact ygm _ _ _ _ (by intro y hy;cases hy)
  have:=hx x (by rw [hs];simp)
  rw [h.2.2] at this
  exact this
 ·cases h
theorem yl6 (L:List Tk) (k:Nat) (hk:k≤L.length) (h:(L.take k).all (fun x=>ybk x.k x.t)=true):(ycI (L.take k)).length≤23*k:=by
 induction k with
 | zero=>simp [ycI]
 | succ k ih =>
  have hx:L[k]?=some L[k]:=List.getElem?_eq_getElem (by omega)
  rw [ygq L k _ hx] at h ⊢
  rw [List.all_append,Bool.and_eq_true] at h
  have h1:=ih (by omega) h.1
  have h2:=yfb (show ybk L[k].k L[k].t=true by simpa using h.2)
  by_cases e:L.take k=[]
  ·rw [e];simp [ycI];omega
  ·rw [yf8 _ _ e];simp;omega
theorem yhg (b off n cap:Nat) (L:List Tk) (w:World) (hn:0 < n) (hr:n*32≤140737488355328) (hb:b < w.heap.size) (hL:yk4 w b off n L) (ht:∀ x ∈ L,x.t.length≤9223372036854775000) :
  Calls Tryz.prog 16 #[.slice (some ⟨b,off,none⟩) n cap] w fun e w'=>e=.returned (.tuple #[.string ⟨(yfp L).1.toArray⟩,.int .i64 ((yfp L).2:Nat)])∧Below w.heap.size w w':=by
 obtain ⟨hlen,hcells⟩:=hL
 go_enter Tryz.func16,Tryz.ntmps16
 go_wp2
 go_loopw [9] (fun i wr=>∃ k:Nat,k≤n∧i=.int .i64 k∧Lib.IsBuilder 71 5 w.heap.size w.heap.size (Lib.byteCells (ycI (L.take k))) wr∧Below w.heap.size w wr ∧
   Hid ((L.take k).all (fun x=>ybk x.k x.t)=true)) (fun i _=>n - (intOf i).toNat)
 case atStart =>
  exact ⟨0,Nat.zero_le _,rfl,Lib.fresh_isBuilder 71 5 w,(Below.refl _ _).alloc (Nat.le_refl _) _,by simp [Hid]⟩
 case round =>
  obtain ⟨k,hk,rfl,hB,hnx,HA⟩:=hrel
  by_cases hlt:k < n
  ·obtain ⟨x,hx⟩:∃ x,L[k]?=some x:=⟨L[k],List.getElem?_eq_getElem (by omega)⟩
   obtain ⟨e0,e1,e2⟩:=hcells k x hx
   have a0:=(hnx.cell (p:=⟨b,off+k*3,none⟩) hb).trans e0
   have a1:=(hnx.cell (p:=⟨b,off+k*3+1,none⟩) hb).trans e1
   have a2:=(hnx.cell (p:=⟨b,off+k*3+2,none⟩) hb).trans e2
   have hal:=fun W=>yk5 x.k x.a ⟨x.t.toArray⟩ W (by rw [yaN];exact ht x (List.mem_of_getElem? hx))
   cases hx1:ybk x.k x.t
   ·simp only [hx1] at hal
    clear e0 e1 e2 hcells
    go_wp2_with (go_at_call 41;refine (hal _).mono ?_;rintro e w2 ⟨rfl,hb2⟩)
    go_ret2
    have hJ:yfp L=([],1):=by
     unfold yfp
     rw [if_neg]
     intro h
     have:=List.all_eq_true.1 h x (List.mem_of_getElem? hx)
     rw [hx1] at this;cases this
    rw [hJ]
    exact ⟨rfl,(hnx.alloc hnx.size _).trans (hb2.mono (by have:=hnx.size;simp;omega))⟩
   ·simp only [hx1] at hal
    clear e0 e1 e2 hcells
    have hsz:=hnx.size
    have hsz1:w.heap.size < wr.heap.size:=by rcases hB with h|h <;> exact h.lt
    have HX:Hid (ybk x.k x.t=true):=hx1
    have HL:Hid (L[k]?=some x):=hx
    have HB:=ydj hB ((Below.refl wr.heap.size wr).alloc (Nat.le_refl _) (.cells #[.int .i64 x.k,.int .i64 x.a,.string ⟨x.t.toArray⟩] 63))
    have hjl:=yl6 L k (by omega) HA.out
    have hxl:=yfb hx1
    have hk1:=ygq L k x hx
    clear hx hx1 hB
    have HK:Hid (L.take (k+1)=L.take k++[x]):=hk1
    have HA1:Hid ((L.take (k+1)).all (fun x=>ybk x.k x.t)=true):=by
     show (L.take (k+1)).all (fun x=>ybk x.k x.t)=true
     rw [hk1,List.all_append,HA.out];simpa using HX.out
    clear hk1 HA
    have hxs:=yaN x.t
    have hjc:=Lib.byteCells_length (ycI (L.take k))
    by_cases hk0:0 < k
    ·go_wp2_with (go_at_call 41;refine (hal _).mono ?_;rintro e w2 ⟨rfl,hb2⟩)
     have hbl:w2.heap[wr.heap.size]?=some (.cells #[.int .i64 x.k,.int .i64 x.a,.string ⟨x.t.toArray⟩] 63 (0,0)):=(hb2.block _ (by simp)).trans (heap_alloc_new _ _)
     have hs2:wr.heap.size+1≤w2.heap.size:=by have:=hb2.size;simpa using this
     refine (ygW w.heap.size w.heap.size _ 32 _ (ydj HB hb2) (by rw [hjc];omega) (by omega)).mono ?_
     rintro e w3 ⟨rfl,h3,hb3,ho3⟩
     have hbl3:=ho3 _ _ hbl (by simp;omega) (by intro c fz;simp)
     have c3:w3.cell? ⟨wr.heap.size,2,none⟩=some (.string ⟨x.t.toArray⟩):=by rw [Lib.cell_of_heap hbl3];rfl
     have hs3:=hb3.size
     go_wp2_with fail
     refine (ydL w.heap.size w.heap.size _ ⟨x.t.toArray⟩ _ (.inr h3) (by simp only [List.length_append,List.length_cons,List.length_nil];rw [hjc,hxs];omega) (by omega)).mono ?_
     rintro e w4 ⟨rfl,h4,hb4,ho4⟩
     have R:Lib.IsBuilder 71 5 w.heap.size w.heap.size (Lib.byteCells (ycI (L.take (k+1)))) w4:=by
      have e:ycI (L.take (k+1))=ycI (L.take k)++([32]++x.t):=by
       rw [HK.out,yf8 _ _ (by intro h;have:=congrArg List.length h;rw [List.length_take,Nat.min_eq_left (by omega)] at this;simp at this;omega)];rfl
      rw [e,yds,yds,← List.append_assoc]
      exact .inr h4
     have hN4:Below w.heap.size w w4:=(((hnx.alloc hsz _).trans (hb2.mono (by simp;omega))).trans hb3).trans hb4
     clear h3 h4 hb2 hb3 hb4 ho3 ho4 HB hal hbl hbl3 c3 a0 a1 a2
     go_wp2
     go_roundw
     case rel=>exact ⟨k+1,by omega,by go_num,R,hN4,HA1⟩
     case measure=>simp [intOf];omega
    ·go_wp2_with (go_at_call 41;refine (hal _).mono ?_;rintro e w2 ⟨rfl,hb2⟩;have c2:w2.cell? ⟨wr.heap.size,2,none⟩=some (.string ⟨x.t.toArray⟩):=(hb2.cell (by simp)).trans (by simp))
     have hs2:wr.heap.size+1≤w2.heap.size:=by have:=hb2.size;simpa using this
     refine (ydL w.heap.size w.heap.size _ ⟨x.t.toArray⟩ _ (ydj HB hb2) (by rw [hjc,hxs];omega) (by omega)).mono ?_
     rintro e w4 ⟨rfl,h4,hb4,ho4⟩
     have R:Lib.IsBuilder 71 5 w.heap.size w.heap.size (Lib.byteCells (ycI (L.take (k+1)))) w4:=by
      have e:ycI (L.take (k+1))=x.t:=by
       rw [HK.out,show k=0 by omega];rfl
      have e0:ycI (L.take k)=[]:=by rw [show k=0 by omega];rfl
      rw [e0] at h4
      rw [e]
      exact .inr h4
     have hN4:Below w.heap.size w w4:=((hnx.alloc hsz _).trans (hb2.mono (by simp;omega))).trans hb4
     clear h4 hb2 hb4 ho4 HB hal c2 a0 a1 a2
     go_wp2
     go_roundw
     case rel=>exact ⟨k+1,by omega,by go_num,R,hN4,HA1⟩
     case measure=>simp [intOf];omega
  ·have hkn:k=n:=by omega
   have HJ:Hid (L.take k=L):=List.take_of_length_le (by omega)
   have HJ2:Hid (yfp L=if 2000 < (ycI L).length then ([],2) else (ycI L,0)):=by
    show yfp L=_
    unfold yfp
    rw [if_pos]
    have:=HA.out
    rw [HJ.out] at this;exact this
   have hB':=hB
   rw [HJ.out] at hB'
   clear hB HA hcells
   have hjl:(ycI L).length=(ycI L).length:=rfl
   by_cases h2:2000 < (ycI L).length
   ·have hlen2:=Tryz.Builder_Len w.heap.size w.heap.size _ wr hB'
    rw [Lib.byteCells_length] at hlen2
    clear hkn hjl
    go_wp2_with (go_at_call 44;refine hlen2.mono ?_;rintro e w' ⟨rfl,hw'⟩;obtain rfl:=hw'.symm;clear hw')
    go_ret2
    rw [HJ2.out,if_pos h2]
    exact ⟨rfl,hnx⟩
   ·have hlen2:=Tryz.Builder_Len w.heap.size w.heap.size _ wr hB'
    rw [Lib.byteCells_length] at hlen2
    clear hkn hjl
    go_wp2_with (first|(go_at_call 44;refine hlen2.mono ?_;rintro e w' ⟨rfl,hw'⟩;obtain rfl:=hw'.symm;clear hw')|(go_at_call 45;refine (Tryz.Builder_String_any w.heap.size w.heap.size (ycI L) _ hB' (by exact hnx.size)).mono ?_;rintro e w5 ⟨rfl,hb5⟩))
    go_ret2
    rw [HJ2.out,if_neg h2]
    exact ⟨rfl,hnx.trans hb5⟩
end Go.Proofs.YtkpeklealgicpabGreatDoor
