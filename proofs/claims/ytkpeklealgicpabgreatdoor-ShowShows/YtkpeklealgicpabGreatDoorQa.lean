/-
  The small predicates of package token and the walk over bytes 'span', at every input: each answers its plain function and leaves the world as it was.
  'span' of package token, at every text, place within it and each of the four function values that the program hands it: it answers the place where the bytes end of which it goes on, and leaves the world as it was.
  The contracts of the library functions that this program calls, stated at its own numbers.
  'next' of package token.
  'longest' and 'fault' of package token.
  The plain function that scanning comes to, over lists of bytes, and its small laws; what 'fault' answers, in its words.
  'Scan' of package token.
  The writers of strings.Builder over this program: what each leaves of the builder, and of all blocks that are neither the builder's nor rows of bytes.
  'Scan' and 'alone' of package token, at every input.
  'Join' of package token.
  Plain functions' laws on tokens, over lists of bytes: the same as over the other laws' program.
  'isInt', 'isQuotable' and 'Check' of package value.
-/
import Derived.Test.YtkpeklealgicpabGreatDoorRows
import Derived.WalkKit
import Derived.WalkSpells
import Derived.WalkLawsBesides
import Derived.Shelf.Strings.Builder1
import Derived.Shelf.Small.Strs
import Derived.Shelf.Small.Wraps
import Derived.Shelf.Strings.BuilderF
import Derived.Shelf.Strings.BuilderK
import Derived.Shelf.Strconv.Atoi
import Derived.Shelf.Strconv.Itoa0
import Derived.Shelf.Strconv.Itoa1
import Derived.Shelf.LaysM
import Derived.Shelf.Strconv.Itoa2
import Derived.Shelf.Strconv.Itoa3
import Derived.Shelf.Strconv.AtoiErrFast
import Derived.Shelf.Strconv.ParseIntEmpty
import Derived.Shelf.Strconv.AtoiFail
import Derived.Shelf.Strconv.Clone
import Derived.Shelf.Strconv.SyntaxError
import Derived.Shelf.LaysC
import Derived.Shelf.Strconv.ToError
import Derived.Shelf.Strconv.Lower
import Derived.Shelf.Strconv.ParseUint10
import Derived.Shelf.Strconv.ParseUint10Empty
import Derived.Shelf.Strconv.ParseUint10Any
import Derived.Shelf.Strconv.ParseInt10
import Derived.Shelf.Strconv.AtoiLong
import Derived.Shelf.Strconv.AtoiInnerAll
import Derived.Shelf.Strconv.RangeError
import Derived.Shelf.Strconv.ToErrorRange
import Derived.Shelf.Strconv.AtoiAll
import Derived.Shelf.Strconv.ErrVarAll
import Derived.Shelf.Strings.Search1
import Derived.Shelf.Strings.Search2
import Derived.Shelf.Strings.Search3
import Derived.Shelf.Strings.Shaped
import Derived.Shelf.Strings.Prefix
import Derived.Test.YtkpeklealgicpabGreatDoorProg
import Derived.Deep.QuietTactic
import Derived.BigQuiet
import Derived.Lib.OthersKept
import Derived.Laws.StructEq

set_option maxRecDepth 100000
set_option maxHeartbeats 8000000
namespace Go.Proofs.YtkpeklealgicpabGreatDoor
open Go.RowKit
theorem ltS {α : Type} {xs : Array α} {i : Nat} {a : α} (h : xs[i]? = some a) : i < xs.size := (Array.getElem?_eq_some_iff.1 h).1
abbrev nl : Value := .slice none 0 0
def isL (c:UInt8):Bool:=decide ((97:Int)≤(c.toNat:Int))&&decide ((c.toNat:Int)≤122)
def isD (c:UInt8):Bool:=decide ((48:Int)≤(c.toNat:Int))&&decide ((c.toNat:Int)≤57)
def isW (c:UInt8):Bool:=isL c || isD c
def isQ (c:UInt8):Bool:=decide ((32:Int)≤(c.toNat:Int))&&decide ((c.toNat:Int)≤126)&&((c.toNat:Int) != 39)
def isB (c:UInt8):Bool:=((c.toNat:Int) == 32) || ((c.toNat:Int) == 9) || ((c.toNat:Int) == 10)
theorem yaw {a b:Bool} (h:a=b):Ending.returned (.bool a)=.returned (.bool b):=by rw [h]
theorem yct {k:IntKind} {a b:Int} (h:a=b):Ending.returned (.int k a)=.returned (.int k b):=by rw [h]
theorem ydV (c:UInt8) (w:World) :
  Calls Tryz.prog 86 #[.int .u8 (c.toNat:Int)] w fun e w'=>e=.returned (.bool (isL c))∧w'=w:=by
 go_enter Tryz.func86,Tryz.ntmps86
 go_wp2
 all_goals go_ret
 all_goals exact ⟨yaw (by simp [isL, *] <;> omega),rfl⟩
theorem ycS (c:UInt8) (w:World) :
  Calls Tryz.prog 88 #[.int .u8 (c.toNat:Int)] w fun e w'=>e=.returned (.bool (isD c))∧w'=w:=by
 go_enter Tryz.func88,Tryz.ntmps88
 go_wp2
 all_goals go_ret
 all_goals exact ⟨yaw (by simp [isD, *] <;> omega),rfl⟩
theorem ygJ (c:UInt8) (w:World) :
  Calls Tryz.prog 38 #[.int .u8 (c.toNat:Int)] w fun e w'=>e=.returned (.bool (isB c))∧w'=w:=by
 go_enter Tryz.func38,Tryz.ntmps38
 go_wp2
 all_goals go_ret
 all_goals exact ⟨yaw (by simp [isB, *]),rfl⟩
theorem yiS (c:UInt8) (w:World) :
  Calls Tryz.prog 87 #[.int .u8 (c.toNat:Int)] w fun e w'=>e=.returned (.bool (isW c))∧w'=w:=by
 cases hL:isL c
 ·have HL:Hid (isL c=false):=hL
  have h1:=ydV c
  rw [hL] at h1
  clear hL
  go_enter Tryz.func87,Tryz.ntmps87
  go_wp2_with (first|(go_at_call 86;refine (h1 _).mono ?_;rintro e w' ⟨rfl,rfl⟩)|(go_at_call 88;refine (ycS _ _).mono ?_;rintro e w' ⟨rfl,rfl⟩))
  go_ret
  exact ⟨yaw (by simp [isW,HL.out]),rfl⟩
 ·have HL:Hid (isL c=true):=hL
  have h1:=ydV c
  rw [hL] at h1
  clear hL
  go_enter Tryz.func87,Tryz.ntmps87
  go_wp2_with (first|(go_at_call 86;refine (h1 _).mono ?_;rintro e w' ⟨rfl,rfl⟩)|(go_at_call 88;refine (ycS _ _).mono ?_;rintro e w' ⟨rfl,rfl⟩))
  go_ret
  exact ⟨yaw (by simp [isW,HL.out]),rfl⟩
theorem yiC (c:UInt8) (w:World) :
  Calls Tryz.prog 89 #[.int .u8 (c.toNat:Int)] w fun e w'=>e=.returned (.bool (isQ c))∧w'=w:=by
 go_enter Tryz.func89,Tryz.ntmps89
 go_wp2
 all_goals go_ret
 all_goals exact ⟨yaw (by simp [isQ, *] <;> omega),rfl⟩
def ycv (p:UInt8→Bool) (l:List UInt8):Nat:=(l.takeWhile p).length
theorem yf5 (p:UInt8→Bool) (l:List UInt8):ycv p l≤l.length:=by
 unfold ycv;exact (List.takeWhile_sublist p).length_le
theorem ybS (p:UInt8→Bool) (c:UInt8) (l:List UInt8):ycv p (c::l)=if p c=true then ycv p l+1 else 0:=by
 unfold ycv;rw [List.takeWhile_cons];split <;> simp
def yar (p:UInt8→Bool) (s:ByteArray) (a:Nat):Nat:=a+ycv p (s.data.toList.drop a)
theorem ycF (s:ByteArray) (k:Nat) (h:k < s.size):s.data.toList.drop k=s[k]::s.data.toList.drop (k+1):=by
 rw [List.drop_eq_getElem_cons (by simpa using h)];rfl
theorem ybD (p:UInt8→Bool) (s:ByteArray) (k:Nat) (h:k < s.size) (hp:p s[k]=true):yar p s k=yar p s (k+1):=by
 unfold yar;rw [ycF s k h,ybS,if_pos hp];omega
theorem ycp (p:UInt8→Bool) (s:ByteArray) (k:Nat) (h:k < s.size) (hp:p s[k]=false):yar p s k=k:=by
 unfold yar;rw [ycF s k h,ybS,if_neg (by simp [hp])];omega
theorem yb8 (p:UInt8→Bool) (s:ByteArray) (k:Nat) (h:¬ k < s.size):yar p s k=k:=by
 unfold yar;rw [List.drop_eq_nil_of_le (by simp;omega)];simp [ycv]
theorem ych (p:UInt8→Bool) (s:ByteArray) (k:Nat):k≤yar p s k:=by unfold yar;omega
theorem yej (p:UInt8→Bool) (s:ByteArray) (k:Nat) (h:k≤s.size):yar p s k≤s.size:=by
 unfold yar;have:=yf5 p (s.data.toList.drop k);simp at this;omega
theorem yfG (s:ByteArray) (a:Nat) (w:World) (hs:s.size≤9223372036854775000) (ha:a≤s.size) :
  Calls Tryz.prog 37 #[.string s,.int .i64 (a:Int),.func (.func 38) #[] #[]] w fun e w'=>e=.returned (.int .i64 (yar isB s a:Nat))∧w'=w:=by
 go_enter Tryz.func37,Tryz.ntmps37
 go_wp2
 go_loop [1] (fun i=>∃ k:Nat,k≤s.size∧i=.int .i64 k∧Hid (yar isB s k=yar isB s a)) (fun i=>s.size - (intOf i).toNat)
 case atStart=>exact ⟨a,ha,rfl,rfl⟩
 case round =>
  obtain ⟨k,hk,rfl,hE⟩:=hrel
  by_cases hlt:k < s.size
  ·cases hp:isB s[k]
   ·have hend:=ycp isB s k hlt hp
    have h1:=ygJ s[k]
    rw [hp] at h1
    rw [hE.out] at hend
    have HE:Hid (yar isB s a=k):=hend
    clear hend hE hp
    go_wp2_with (go_at_call 38;refine (h1 _).mono ?_;rintro e w' ⟨rfl,rfl⟩)
    go_ret
    exact ⟨yct (by rw [HE.out]),rfl⟩
   ·have hend:=ybD isB s k hlt hp
    have h1:=ygJ s[k]
    rw [hp] at h1
    rw [hE.out] at hend
    have HE:Hid (yar isB s (k+1)=yar isB s a):=hend.symm
    clear hend hE hp
    go_wp2_with (go_at_call 38;refine (h1 _).mono ?_;rintro e w' ⟨rfl,rfl⟩)
    go_round
    case rel=>exact ⟨k+1,by omega,by go_num,HE⟩
    case measure=>simp [intOf];omega
  ·have hend:=yb8 isB s k hlt
   rw [hE.out] at hend
   have HE:Hid (yar isB s a=k):=hend
   clear hend hE
   go_wp2
   go_ret
   exact ⟨yct (by rw [HE.out]),rfl⟩
theorem ymI (s:ByteArray) (a:Nat) (w:World) (hs:s.size≤9223372036854775000) (ha:a≤s.size) :
  Calls Tryz.prog 37 #[.string s,.int .i64 (a:Int),.func (.func 87) #[] #[]] w fun e w'=>e=.returned (.int .i64 (yar isW s a:Nat))∧w'=w:=by
 go_enter Tryz.func37,Tryz.ntmps37
 go_wp2
 go_loop [1] (fun i=>∃ k:Nat,k≤s.size∧i=.int .i64 k∧Hid (yar isW s k=yar isW s a)) (fun i=>s.size - (intOf i).toNat)
 case atStart=>exact ⟨a,ha,rfl,rfl⟩
 case round =>
  obtain ⟨k,hk,rfl,hE⟩:=hrel
  by_cases hlt:k < s.size
  ·cases hp:isW s[k]
   ·have hend:=ycp isW s k hlt hp
    have h1:=yiS s[k]
    rw [hp] at h1
    rw [hE.out] at hend
    have HE:Hid (yar isW s a=k):=hend
    clear hend hE hp
    go_wp2_with (go_at_call 87;refine (h1 _).mono ?_;rintro e w' ⟨rfl,rfl⟩)
    go_ret
    exact ⟨yct (by rw [HE.out]),rfl⟩
   ·have hend:=ybD isW s k hlt hp
    have h1:=yiS s[k]
    rw [hp] at h1
    rw [hE.out] at hend
    have HE:Hid (yar isW s (k+1)=yar isW s a):=hend.symm
    clear hend hE hp
    go_wp2_with (go_at_call 87;refine (h1 _).mono ?_;rintro e w' ⟨rfl,rfl⟩)
    go_round
    case rel=>exact ⟨k+1,by omega,by go_num,HE⟩
    case measure=>simp [intOf];omega
  ·have hend:=yb8 isW s k hlt
   rw [hE.out] at hend
   have HE:Hid (yar isW s a=k):=hend
   clear hend hE
   go_wp2
   go_ret
   exact ⟨yct (by rw [HE.out]),rfl⟩
theorem yj5 (s:ByteArray) (a:Nat) (w:World) (hs:s.size≤9223372036854775000) (ha:a≤s.size) :
  Calls Tryz.prog 37 #[.string s,.int .i64 (a:Int),.func (.func 88) #[] #[]] w fun e w'=>e=.returned (.int .i64 (yar isD s a:Nat))∧w'=w:=by
 go_enter Tryz.func37,Tryz.ntmps37
 go_wp2
 go_loop [1] (fun i=>∃ k:Nat,k≤s.size∧i=.int .i64 k∧Hid (yar isD s k=yar isD s a)) (fun i=>s.size - (intOf i).toNat)
 case atStart=>exact ⟨a,ha,rfl,rfl⟩
 case round =>
  obtain ⟨k,hk,rfl,hE⟩:=hrel
  by_cases hlt:k < s.size
  ·cases hp:isD s[k]
   ·have hend:=ycp isD s k hlt hp
    have h1:=ycS s[k]
    rw [hp] at h1
    rw [hE.out] at hend
    have HE:Hid (yar isD s a=k):=hend
    clear hend hE hp
    go_wp2_with (go_at_call 88;refine (h1 _).mono ?_;rintro e w' ⟨rfl,rfl⟩)
    go_ret
    exact ⟨yct (by rw [HE.out]),rfl⟩
   ·have hend:=ybD isD s k hlt hp
    have h1:=ycS s[k]
    rw [hp] at h1
    rw [hE.out] at hend
    have HE:Hid (yar isD s (k+1)=yar isD s a):=hend.symm
    clear hend hE hp
    go_wp2_with (go_at_call 88;refine (h1 _).mono ?_;rintro e w' ⟨rfl,rfl⟩)
    go_round
    case rel=>exact ⟨k+1,by omega,by go_num,HE⟩
    case measure=>simp [intOf];omega
  ·have hend:=yb8 isD s k hlt
   rw [hE.out] at hend
   have HE:Hid (yar isD s a=k):=hend
   clear hend hE
   go_wp2
   go_ret
   exact ⟨yct (by rw [HE.out]),rfl⟩
theorem ymH (s:ByteArray) (a:Nat) (w:World) (hs:s.size≤9223372036854775000) (ha:a≤s.size) :
  Calls Tryz.prog 37 #[.string s,.int .i64 (a:Int),.func (.func 89) #[] #[]] w fun e w'=>e=.returned (.int .i64 (yar isQ s a:Nat))∧w'=w:=by
 go_enter Tryz.func37,Tryz.ntmps37
 go_wp2
 go_loop [1] (fun i=>∃ k:Nat,k≤s.size∧i=.int .i64 k∧Hid (yar isQ s k=yar isQ s a)) (fun i=>s.size - (intOf i).toNat)
 case atStart=>exact ⟨a,ha,rfl,rfl⟩
 case round =>
  obtain ⟨k,hk,rfl,hE⟩:=hrel
  by_cases hlt:k < s.size
  ·cases hp:isQ s[k]
   ·have hend:=ycp isQ s k hlt hp
    have h1:=yiC s[k]
    rw [hp] at h1
    rw [hE.out] at hend
    have HE:Hid (yar isQ s a=k):=hend
    clear hend hE hp
    go_wp2_with (go_at_call 89;refine (h1 _).mono ?_;rintro e w' ⟨rfl,rfl⟩)
    go_ret
    exact ⟨yct (by rw [HE.out]),rfl⟩
   ·have hend:=ybD isQ s k hlt hp
    have h1:=yiC s[k]
    rw [hp] at h1
    rw [hE.out] at hend
    have HE:Hid (yar isQ s (k+1)=yar isQ s a):=hend.symm
    clear hend hE hp
    go_wp2_with (go_at_call 89;refine (h1 _).mono ?_;rintro e w' ⟨rfl,rfl⟩)
    go_round
    case rel=>exact ⟨k+1,by omega,by go_num,HE⟩
    case measure=>simp [intOf];omega
  ·have hend:=yb8 isQ s k hlt
   rw [hE.out] at hend
   have HE:Hid (yar isQ s a=k):=hend
   clear hend hE
   go_wp2
   go_ret
   exact ⟨yct (by rw [HE.out]),rfl⟩
end Go.Proofs.YtkpeklealgicpabGreatDoor
namespace Go.Proofs
open Go.Shelf
def Tryz.lays170_ren : Go.Shelf.Ren := ⟨fun | 170 => 44 | n => n, fun | 70 => 68 | 3 => 3 | 0 => 0 | 72 => 71 | 37 => 69 | 5 => 5 | n => n, fun | n => n⟩
theorem Tryz.lays170 : Go.Proofs.Lays.n170 Tryz.prog Tryz.lays170_ren := {
  mixed := by kernel_rfl
  f170 := Tryz.func44.trans (congrArg some (by kernel_rfl))
  t0 := Tryz.underlying0
  a0 := Tryz.isAgg0
  z0 := Tryz.sizeOf0
  v0 := Tryz.zeroValue0
  t3 := Tryz.underlying3
  a3 := Tryz.isAgg3
  z3 := Tryz.sizeOf3
  v3 := Tryz.zeroValue3
  t37 := Tryz.underlying69
  a37 := Tryz.isAgg69
  z37 := Tryz.sizeOf69
  v37 := Tryz.zeroValue69
  t70 := Tryz.underlying68
  a70 := Tryz.isAgg68
  z70 := Tryz.sizeOf68
  v70 := Tryz.zeroValue68
  t72 := Tryz.underlying71
  a72 := Tryz.isAgg71
  z72 := Tryz.sizeOf71
  v72 := Tryz.zeroValue71 }
open Go.RowKit in
theorem Tryz.Builder_Len (B b : Nat) (bs : List Value) (w : World) (h : Lib.IsBuilder 71 5 B b bs w) :
    Calls Tryz.prog 44 #[.pointer (some ⟨b, 0, none⟩)] w fun e w' => e = .returned (.int .i64 bs.length) ∧ w' = w := Any.Builder_Len Tryz.lays170 B b bs w h
def Tryz.lays169_ren : Go.Shelf.Ren := ⟨fun | 169 => 45 | n => n, fun | 70 => 68 | 9 => 9 | 0 => 0 | 72 => 71 | 37 => 69 | 127 => 116 | 3 => 3 | 5 => 5 | n => n, fun | n => n⟩
theorem Tryz.lays169 : Go.Proofs.Lays.n169 Tryz.prog Tryz.lays169_ren := {
  mixed := by kernel_rfl
  f169 := Tryz.func45.trans (congrArg some (by kernel_rfl))
  t0 := Tryz.underlying0
  a0 := Tryz.isAgg0
  z0 := Tryz.sizeOf0
  v0 := Tryz.zeroValue0
  t3 := Tryz.underlying3
  a3 := Tryz.isAgg3
  z3 := Tryz.sizeOf3
  v3 := Tryz.zeroValue3
  t9 := Tryz.underlying9
  a9 := Tryz.isAgg9
  z9 := Tryz.sizeOf9
  v9 := Tryz.zeroValue9
  t37 := Tryz.underlying69
  a37 := Tryz.isAgg69
  z37 := Tryz.sizeOf69
  v37 := Tryz.zeroValue69
  t70 := Tryz.underlying68
  a70 := Tryz.isAgg68
  z70 := Tryz.sizeOf68
  v70 := Tryz.zeroValue68
  t72 := Tryz.underlying71
  a72 := Tryz.isAgg71
  z72 := Tryz.sizeOf71
  v72 := Tryz.zeroValue71
  t127 := Tryz.underlying116
  a127 := Tryz.isAgg116
  z127 := Tryz.sizeOf116
  v127 := Tryz.zeroValue116 }
theorem Tryz.Builder_Extra_169 : Builder.Extra Tryz.prog Tryz.lays169_ren := {
  sizeBuilder := by kernel_rfl
  liesBuilder := by kernel_rfl
  t5 := Tryz.underlying5
  a5 := Tryz.isAgg5
  z5 := Tryz.sizeOf5
  v5 := Tryz.zeroValue5
  infoByte := by kernel_rfl
  cellsByte := by kernel_rfl
  sizeByte := by kernel_rfl
  neB5 := by decide }
open Go.RowKit in
theorem Tryz.Builder_String_any (B b : Nat) (l : List UInt8) (w : World) (h : Lib.IsBuilder 71 5 B b (Lib.byteCells l) w) (hBw : B ≤ w.heap.size) :
    Calls Tryz.prog 45 #[.pointer (some ⟨b, 0, none⟩)] w fun e w' => e = .returned (.string ⟨l.toArray⟩) ∧ Below B w w' := Any.Builder_String_any Tryz.lays169 Tryz.Builder_Extra_169 B b l w h hBw
def Tryz.lays137_ren : Go.Shelf.Ren := ⟨fun | 137 => 91 | 217 => 132 | 266 => 165 | n => n, fun | 9 => 9 | 5 => 5 | 3 => 3 | n => n, fun | n => n⟩
theorem Tryz.lays137 : Go.Proofs.Lays.n137 Tryz.prog Tryz.lays137_ren := {
  mixed := by kernel_rfl
  f137 := Tryz.func91.trans (congrArg some (by kernel_rfl))
  f217 := Tryz.func132.trans (congrArg some (by kernel_rfl))
  f266 := Tryz.func165.trans (congrArg some (by kernel_rfl))
  t3 := Tryz.underlying3
  a3 := Tryz.isAgg3
  z3 := Tryz.sizeOf3
  v3 := Tryz.zeroValue3
  t5 := Tryz.underlying5
  a5 := Tryz.isAgg5
  z5 := Tryz.sizeOf5
  v5 := Tryz.zeroValue5
  t9 := Tryz.underlying9
  a9 := Tryz.isAgg9
  z9 := Tryz.sizeOf9
  v9 := Tryz.zeroValue9 }
open Go.RowKit in
theorem Tryz.strings_IndexByte (s : ByteArray) (c : Int) (w : World) :
    Calls Tryz.prog 91 #[.string s, .int .u8 c] w fun e w' => e = .returned (.int .i64 (Lib.indexByte s.data.toList c.toNat.toUInt8)) ∧ w' = w := Any.strings_IndexByte Tryz.lays137 s c w
def Tryz.laysM246_ren : Go.Shelf.Ren := ⟨fun | 246 => 179 | 283 => 187 | 284 => 188 | 285 => 189 | 286 => 190 | 129 => 199 | 317 => 198 | 318 => 200 | 319 => 201 | 320 => 202 | 337 => 206 | 338 => 207 | n => n, fun | 2 => 2 | 3 => 3 | 9 => 9 | 4 => 4 | 171 => 158 | 0 => 0 | 53 => 159 | 37 => 69 | 5 => 5 | 173 => 162 | 212 => 174 | 51 => 170 | 20 => 20 | 213 => 175 | 46 => 157 | 232 => 188 | 233 => 189 | n => n, fun | 17 => 1 | 18 => 4 | 19 => 5 | n => n⟩
def Tryz.laysM243_ren : Go.Shelf.Ren := ⟨fun | 243 => 166 | 246 => 179 | 283 => 187 | 284 => 188 | 285 => 189 | 286 => 190 | 129 => 199 | 317 => 198 | 318 => 200 | 319 => 201 | 320 => 202 | 337 => 206 | 338 => 207 | n => n, fun | 3 => 3 | 9 => 9 | 2 => 2 | 4 => 4 | 171 => 158 | 0 => 0 | 53 => 159 | 37 => 69 | 5 => 5 | 173 => 162 | 212 => 174 | 51 => 170 | 20 => 20 | 213 => 175 | 46 => 157 | 232 => 188 | 233 => 189 | n => n, fun | 17 => 1 | 18 => 4 | 19 => 5 | n => n⟩
def Tryz.laysM171_ren : Go.Shelf.Ren := ⟨fun | 171 => 136 | 243 => 166 | 246 => 179 | 283 => 187 | 284 => 188 | 285 => 189 | 286 => 190 | 129 => 199 | 317 => 198 | 318 => 200 | 319 => 201 | 320 => 202 | 337 => 206 | 338 => 207 | n => n, fun | 3 => 3 | 9 => 9 | 2 => 2 | 4 => 4 | 171 => 158 | 0 => 0 | 53 => 159 | 37 => 69 | 5 => 5 | 173 => 162 | 212 => 174 | 51 => 170 | 20 => 20 | 213 => 175 | 46 => 157 | 232 => 188 | 233 => 189 | n => n, fun | 17 => 1 | 18 => 4 | 19 => 5 | n => n⟩
theorem Tryz.laysM171 : Go.Proofs.LaysM.n171 Tryz.prog Tryz.laysM171_ren := {
  mixed := by kernel_rfl
  f129 := Tryz.func199.trans (congrArg some (by kernel_rfl))
  f171 := Tryz.func136.trans (congrArg some (by kernel_rfl))
  f243 := Tryz.func166.trans (congrArg some (by kernel_rfl))
  f246 := Tryz.func179.trans (congrArg some (by kernel_rfl))
  f283 := Tryz.func187.trans (congrArg some (by kernel_rfl))
  f284 := Tryz.func188.trans (congrArg some (by kernel_rfl))
  f285 := Tryz.func189.trans (congrArg some (by kernel_rfl))
  f286 := Tryz.func190.trans (congrArg some (by kernel_rfl))
  f317 := Tryz.func198.trans (congrArg some (by kernel_rfl))
  f318 := Tryz.func200.trans (congrArg some (by kernel_rfl))
  f319 := Tryz.func201.trans (congrArg some (by kernel_rfl))
  f320 := Tryz.func202.trans (congrArg some (by kernel_rfl))
  f337 := Tryz.func206.trans (congrArg some (by kernel_rfl))
  f338 := Tryz.func207.trans (congrArg some (by kernel_rfl))
  t0 := Tryz.underlying0
  a0 := Tryz.isAgg0
  z0 := Tryz.sizeOf0
  v0 := Tryz.zeroValue0
  t2 := Tryz.underlying2
  a2 := Tryz.isAgg2
  z2 := Tryz.sizeOf2
  v2 := Tryz.zeroValue2
  t3 := Tryz.underlying3
  a3 := Tryz.isAgg3
  z3 := Tryz.sizeOf3
  v3 := Tryz.zeroValue3
  t4 := Tryz.underlying4
  a4 := Tryz.isAgg4
  z4 := Tryz.sizeOf4
  v4 := Tryz.zeroValue4
  t5 := Tryz.underlying5
  a5 := Tryz.isAgg5
  z5 := Tryz.sizeOf5
  v5 := Tryz.zeroValue5
  t9 := Tryz.underlying9
  a9 := Tryz.isAgg9
  z9 := Tryz.sizeOf9
  v9 := Tryz.zeroValue9
  t20 := Tryz.underlying20
  a20 := Tryz.isAgg20
  z20 := Tryz.sizeOf20
  v20 := Tryz.zeroValue20
  t37 := Tryz.underlying69
  a37 := Tryz.isAgg69
  z37 := Tryz.sizeOf69
  v37 := Tryz.zeroValue69
  t46 := Tryz.underlying157
  a46 := Tryz.isAgg157
  z46 := Tryz.sizeOf157
  v46 := Tryz.zeroValue157
  t51 := Tryz.underlying170
  a51 := Tryz.isAgg170
  z51 := Tryz.sizeOf170
  v51 := Tryz.zeroValue170
  t53 := Tryz.underlying159
  a53 := Tryz.isAgg159
  z53 := Tryz.sizeOf159
  v53 := Tryz.zeroValue159
  t171 := Tryz.underlying158
  a171 := Tryz.isAgg158
  z171 := Tryz.sizeOf158
  v171 := Tryz.zeroValue158
  t173 := Tryz.underlying162
  a173 := Tryz.isAgg162
  z173 := Tryz.sizeOf162
  v173 := Tryz.zeroValue162
  t212 := Tryz.underlying174
  a212 := Tryz.isAgg174
  z212 := Tryz.sizeOf174
  v212 := Tryz.zeroValue174
  t213 := Tryz.underlying175
  a213 := Tryz.isAgg175
  z213 := Tryz.sizeOf175
  t232 := Tryz.underlying188
  a232 := Tryz.isAgg188
  z232 := Tryz.sizeOf188
  v232 := Tryz.zeroValue188
  t233 := Tryz.underlying189
  a233 := Tryz.isAgg189
  z233 := Tryz.sizeOf189
  v233 := Tryz.zeroValue189
  g17 := by kernel_rfl
  g18 := by kernel_rfl
  g19 := by kernel_rfl
  i0 := by kernel_rfl
  i2 := by kernel_rfl
  i3 := by kernel_rfl
  i4 := by kernel_rfl
  i5 := by kernel_rfl
  i9 := by kernel_rfl
  i20 := by kernel_rfl
  i37 := by kernel_rfl
  i46 := by kernel_rfl
  i51 := by kernel_rfl
  i53 := by kernel_rfl
  i171 := by kernel_rfl
  i173 := by kernel_rfl
  i212 := by kernel_rfl
  i232 := by kernel_rfl
  i233 := by kernel_rfl
  m17 := by kernel_rfl
  m18 := by kernel_rfl
  m19 := by kernel_rfl }
open Go.RowKit Go.Sort Go.Lib in
theorem Tryz.strconv_Itoa (n : Int) (h0 : -9223372036854775808 ≤ n) (h1 : n ≤ 9223372036854775807) (w : World) (htab : Lib.TabIs Tryz.prog w "internal/strconv.uint64pow10" .u64 Lib.pow10Tab) :
    Calls Tryz.prog 136 #[.int .i64 n] w fun e w' => e = .returned (.string ⟨(Lib.itoa n).toArray⟩) ∧ ∃ k os, w' = grow (w.drewN k) os := Any.strconv_Itoa Tryz.laysM171 n h0 h1 w htab
def Tryz.lays219_ren : Go.Shelf.Ren := ⟨fun | 219 => 175 | 217 => 132 | 225 => 184 | 224 => 185 | 267 => 186 | 266 => 165 | 314 => 197 | n => n, fun | 9 => 9 | 3 => 3 | 4 => 4 | 5 => 5 | 46 => 157 | 146 => 171 | 51 => 170 | n => n, fun | 1 => 0 | n => n⟩
def Tryz.lays144_ren : Go.Shelf.Ren := ⟨fun | 144 => 120 | 143 => 153 | 219 => 175 | 217 => 132 | 225 => 184 | 224 => 185 | 267 => 186 | 266 => 165 | 314 => 197 | n => n, fun | 9 => 9 | 4 => 4 | 3 => 3 | 5 => 5 | 46 => 157 | 146 => 171 | 51 => 170 | n => n, fun | 1 => 0 | n => n⟩
theorem Tryz.lays144 : Go.Proofs.Lays.n144 Tryz.prog Tryz.lays144_ren := {
  mixed := by kernel_rfl
  f143 := Tryz.func153.trans (congrArg some (by kernel_rfl))
  f144 := Tryz.func120.trans (congrArg some (by kernel_rfl))
  f217 := Tryz.func132.trans (congrArg some (by kernel_rfl))
  f219 := Tryz.func175.trans (congrArg some (by kernel_rfl))
  f224 := Tryz.func185.trans (congrArg some (by kernel_rfl))
  f225 := Tryz.func184.trans (congrArg some (by kernel_rfl))
  f266 := Tryz.func165.trans (congrArg some (by kernel_rfl))
  f267 := Tryz.func186.trans (congrArg some (by kernel_rfl))
  f314 := Tryz.func197.trans (congrArg some (by kernel_rfl))
  t3 := Tryz.underlying3
  a3 := Tryz.isAgg3
  z3 := Tryz.sizeOf3
  v3 := Tryz.zeroValue3
  t4 := Tryz.underlying4
  a4 := Tryz.isAgg4
  z4 := Tryz.sizeOf4
  v4 := Tryz.zeroValue4
  t5 := Tryz.underlying5
  a5 := Tryz.isAgg5
  z5 := Tryz.sizeOf5
  v5 := Tryz.zeroValue5
  t9 := Tryz.underlying9
  a9 := Tryz.isAgg9
  z9 := Tryz.sizeOf9
  v9 := Tryz.zeroValue9
  t46 := Tryz.underlying157
  a46 := Tryz.isAgg157
  z46 := Tryz.sizeOf157
  v46 := Tryz.zeroValue157
  t51 := Tryz.underlying170
  a51 := Tryz.isAgg170
  z51 := Tryz.sizeOf170
  v51 := Tryz.zeroValue170
  t146 := Tryz.underlying171
  a146 := Tryz.isAgg171
  z146 := Tryz.sizeOf171
  v146 := Tryz.zeroValue171
  g1 := by kernel_rfl }
open Go.RowKit Go.Lib in
theorem Tryz.strings_Contains (s sub : ByteArray) (m : Int) (w : World) (hs : s.size < 4294967281) (hm : w.cell? ⟨0, 0, none⟩ = some (.int .i64 m)) :
    Calls Tryz.prog 120 #[.string s, .string sub] w fun e w' => e = .returned (.bool (Lib.contains s.data.toList sub.data.toList)) ∧ w' = w := Any.strings_Contains Tryz.lays144 s sub m w hs hm
def Tryz.lays206_ren : Go.Shelf.Ren := ⟨fun | 206 => 131 | n => n, fun | 9 => 9 | 4 => 4 | 3 => 3 | n => n, fun | n => n⟩
def Tryz.lays99_ren : Go.Shelf.Ren := ⟨fun | 99 => 90 | 206 => 131 | n => n, fun | 9 => 9 | 4 => 4 | 3 => 3 | n => n, fun | n => n⟩
theorem Tryz.lays99 : Go.Proofs.Lays.n99 Tryz.prog Tryz.lays99_ren := {
  mixed := by kernel_rfl
  f99 := Tryz.func90.trans (congrArg some (by kernel_rfl))
  f206 := Tryz.func131.trans (congrArg some (by kernel_rfl))
  t3 := Tryz.underlying3
  a3 := Tryz.isAgg3
  z3 := Tryz.sizeOf3
  v3 := Tryz.zeroValue3
  t4 := Tryz.underlying4
  a4 := Tryz.isAgg4
  z4 := Tryz.sizeOf4
  v4 := Tryz.zeroValue4
  t9 := Tryz.underlying9
  a9 := Tryz.isAgg9
  z9 := Tryz.sizeOf9
  v9 := Tryz.zeroValue9 }
open Go.RowKit Go.Lib in
theorem Tryz.strings_HasPrefix (s p : ByteArray) (w : World) :
    Calls Tryz.prog 90 #[.string s, .string p] w fun e w' => e = .returned (.bool (Lib.hasPrefix s.data.toList p.data.toList)) ∧ w' = w := Any.strings_HasPrefix Tryz.lays99 s p w
end Go.Proofs
namespace Go.Proofs.YtkpeklealgicpabGreatDoor
open Go.RowKit
theorem yd5 {c:UInt8} {b:Bool} (h:isL c=b) (w:World):Calls Tryz.prog 86 #[.int .u8 (c.toNat:Int)] w fun e w'=>e=.returned (.bool b)∧w'=w:=by
 rw [← h];exact ydV c w
theorem yex {c:UInt8} {b:Bool} (h:isD c=b) (w:World):Calls Tryz.prog 88 #[.int .u8 (c.toNat:Int)] w fun e w'=>e=.returned (.bool b)∧w'=w:=by
 rw [← h];exact ycS c w
theorem yc0 (s:ByteArray) (a:Nat) (i:Int) (w:World) (hi:i=(a:Int)) (hs:s.size≤9223372036854775000) (ha:a≤s.size) :
  Calls Tryz.prog 37 #[.string s,.int .i64 i,.func (.func 89) #[] #[]] w fun e w'=>e=.returned (.int .i64 (yar isQ s a:Nat))∧w'=w:=by
 subst hi;exact ymH s a w hs ha
theorem ylQ (s:ByteArray) (a:Nat) (w:World) (hs:s.size≤2000) (ha:a < s.size) (hc:isL s[a]=true) :
  Calls Tryz.prog 39 #[.string s,.int .i64 (a:Int)] w fun e w'=>e=.returned (.agg #[.int .i64 1,.int .i64 (a:Int),.string (s.extract a (yar isW s a))])∧Below w.heap.size w w':=by
 have h1:=yd5 hc
 have h2:=yej isW s a (by omega)
 have h3:=ych isW s a
 clear hc
 go_enter Tryz.func39,Tryz.ntmps39
 go_wp2_with (first|(go_at_call 86;refine (h1 _).mono ?_;rintro e w' ⟨rfl,rfl⟩)|(go_at_call 37;refine (ymI _ _ _ (by omega) (by omega)).mono ?_;rintro e w' ⟨rfl,rfl⟩))
 exact bodyPost_ret (v:=.agg #[.int .i64 1,.int .i64 (a:Int),.string (s.extract a (yar isW s a))]) (by simp [results,Tryz.results39,go_sem]) rfl ⟨rfl,(Below.refl _ _).alloc (Nat.le_refl _) _⟩
theorem yhK (s:ByteArray) (a:Nat) (w:World) (hs:s.size≤2000) (ha:a < s.size) (hc:isL s[a]=false) (hd:isD s[a]=true) :
  Calls Tryz.prog 39 #[.string s,.int .i64 (a:Int)] w fun e w'=>e=.returned (.agg #[.int .i64 2,.int .i64 (a:Int),.string (s.extract a (yar isD s a))])∧Below w.heap.size w w':=by
 have h1:=yd5 hc
 have h1b:=yex hd
 have h2:=yej isD s a (by omega)
 have h3:=ych isD s a
 clear hc hd
 go_enter Tryz.func39,Tryz.ntmps39
 go_wp2_with (first|(go_at_call 86;refine (h1 _).mono ?_;rintro e w' ⟨rfl,rfl⟩)|(go_at_call 88;refine (h1b _).mono ?_;rintro e w' ⟨rfl,rfl⟩)|(go_at_call 37;refine (yj5 _ _ _ (by omega) (by omega)).mono ?_;rintro e w' ⟨rfl,rfl⟩))
 exact bodyPost_ret (v:=.agg #[.int .i64 2,.int .i64 (a:Int),.string (s.extract a (yar isD s a))]) (by simp [results,Tryz.results39,go_sem]) rfl ⟨rfl,(Below.refl _ _).alloc (Nat.le_refl _) _⟩
theorem ylU (s:ByteArray) (a:Nat) (w:World) (hs:s.size≤2000) (ha:a < s.size) (hc:isL s[a]=false) (hd:isD s[a]=false) (hq:((s[a].toNat:Int) == 39)=true)
  (he:yar isQ s (a+1) < s.size) (hz:((s[yar isQ s (a+1)].toNat:Int) == 39)=true) :
  Calls Tryz.prog 39 #[.string s,.int .i64 (a:Int)] w fun e w'=>e=.returned (.agg #[.int .i64 3,.int .i64 (a:Int),.string (s.extract a (yar isQ s (a+1)+1))])∧Below w.heap.size w w':=by
 have h1:=yd5 hc
 have h1b:=yex hd
 have h3:=ych isQ s (a+1)
 clear hc hd
 go_enter Tryz.func39,Tryz.ntmps39
 go_wp2_with (first|(go_at_call 86;refine (h1 _).mono ?_;rintro e w' ⟨rfl,rfl⟩)|(go_at_call 88;refine (h1b _).mono ?_;rintro e w' ⟨rfl,rfl⟩)|(go_at_call 37;refine (yc0 s (a+1) _ _ (by omega) (by omega) (by omega)).mono ?_;rintro e w' ⟨rfl,rfl⟩))
 exact bodyPost_ret (v:=.agg #[.int .i64 3,.int .i64 (a:Int),.string (s.extract a (yar isQ s (a+1)+1))]) (by simp [results,Tryz.results39,go_sem]) rfl ⟨rfl,(Below.refl _ _).alloc (Nat.le_refl _) _⟩
theorem ylS (s:ByteArray) (a:Nat) (w:World) (hs:s.size≤2000) (ha:a < s.size) (hc:isL s[a]=false) (hd:isD s[a]=false) (hq:((s[a].toNat:Int) == 39)=true)
  (he:¬ yar isQ s (a+1) < s.size) :
  Calls Tryz.prog 39 #[.string s,.int .i64 (a:Int)] w fun e w'=>e=.returned (.agg #[.int .i64 0,.int .i64 0,.string ⟨#[]⟩])∧Below w.heap.size w w':=by
 have h1:=yd5 hc
 have h1b:=yex hd
 have h3:=ych isQ s (a+1)
 clear hc hd
 go_enter Tryz.func39,Tryz.ntmps39
 go_wp2_with (first|(go_at_call 86;refine (h1 _).mono ?_;rintro e w' ⟨rfl,rfl⟩)|(go_at_call 88;refine (h1b _).mono ?_;rintro e w' ⟨rfl,rfl⟩)|(go_at_call 37;refine (yc0 s (a+1) _ _ (by omega) (by omega) (by omega)).mono ?_;rintro e w' ⟨rfl,rfl⟩))
 exact bodyPost_ret (v:=.agg #[.int .i64 0,.int .i64 0,.string ⟨#[]⟩]) (by simp [results,Tryz.results39,go_sem]) rfl ⟨rfl,(Below.refl _ _).alloc (Nat.le_refl _) _⟩
theorem yhJ (s:ByteArray) (a:Nat) (w:World) (hs:s.size≤2000) (ha:a < s.size) (hc:isL s[a]=false) (hd:isD s[a]=false) (hq:((s[a].toNat:Int) == 39)=true)
  (he:yar isQ s (a+1) < s.size) (hz:((s[yar isQ s (a+1)].toNat:Int) == 39)=false) :
  Calls Tryz.prog 39 #[.string s,.int .i64 (a:Int)] w fun e w'=>e=.returned (.agg #[.int .i64 0,.int .i64 0,.string ⟨#[]⟩])∧Below w.heap.size w w':=by
 have h1:=yd5 hc
 have h1b:=yex hd
 have h3:=ych isQ s (a+1)
 clear hc hd
 go_enter Tryz.func39,Tryz.ntmps39
 go_wp2_with (first|(go_at_call 86;refine (h1 _).mono ?_;rintro e w' ⟨rfl,rfl⟩)|(go_at_call 88;refine (h1b _).mono ?_;rintro e w' ⟨rfl,rfl⟩)|(go_at_call 37;refine (yc0 s (a+1) _ _ (by omega) (by omega) (by omega)).mono ?_;rintro e w' ⟨rfl,rfl⟩))
 exact bodyPost_ret (v:=.agg #[.int .i64 0,.int .i64 0,.string ⟨#[]⟩]) (by simp [results,Tryz.results39,go_sem]) rfl ⟨rfl,(Below.refl _ _).alloc (Nat.le_refl _) _⟩
def ycO (l:List UInt8):Bool:=Lib.hasPrefix l [124,124]
def isS (c:UInt8):Bool:=decide (c ∈ ([40,41,44,59,42,61,60,43,45]:List UInt8))
theorem yhs (s:ByteArray) (a:Nat):(s.extract a s.size).data.toList=s.data.toList.drop a:=by
 rw [Lib.extract_data,List.take_of_length_le]
 simp
theorem ycU (s:ByteArray) (a:Nat) {b:Bool} (h:ycO (s.data.toList.drop a)=b) (w:World) :
  Calls Tryz.prog 90 #[.string (s.extract a s.size),.string ⟨#[124,124]⟩] w fun e w'=>e=.returned (.bool b)∧w'=w:=by
 have:=Tryz.strings_HasPrefix (s.extract a s.size) ⟨#[124,124]⟩ w
 rw [yhs] at this
 rw [← h];exact this
theorem yfQ (l:List UInt8) (c:UInt8):0≤Lib.indexByte l c↔c ∈ l:=by
 induction l with
 | nil=>simp [Lib.indexByte]
 | cons b l ih =>
  have g:=Lib.indexByte_ge l c
  unfold Lib.indexByte
  by_cases h:b=c
  ·subst h;simp
  ·have h':¬ c=b:=fun e=>h e.symm
   rw [if_neg (by simpa using h)]
   by_cases h2:Lib.indexByte l c = -1
   ·rw [if_pos (by simpa using h2)]
    have:¬ c ∈ l:=fun m=>by have:=ih.2 m;omega
    simp [h',this]
   ·rw [if_neg (by simpa using h2)]
    have:c ∈ l:=ih.1 (by omega)
    simp [this];omega
theorem yd4 (c:UInt8) (w:World) :
  Calls Tryz.prog 91 #[.string ⟨#[40,41,44,59,42,61,60,43,45]⟩,.int .u8 (c.toNat:Int)] w fun e w'=>(∃ n:Int,e=.returned (.int .i64 n)∧(0≤n↔isS c=true))∧w'=w:=by
 refine (Tryz.strings_IndexByte _ _ _).mono ?_
 rintro e w' ⟨rfl,rfl⟩
 refine ⟨⟨_,rfl, ?_⟩,rfl⟩
 rw [yfQ]
 simp [isS]
theorem ylP (s:ByteArray) (a:Nat) (w:World) (hs:s.size≤2000) (ha:a+2≤s.size) (hc:isL s[a]=false) (hd:isD s[a]=false) (hq:((s[a].toNat:Int) == 39)=false)
  (hp:ycO (s.data.toList.drop a)=true) :
  Calls Tryz.prog 39 #[.string s,.int .i64 (a:Int)] w fun e w'=>e=.returned (.agg #[.int .i64 4,.int .i64 (a:Int),.string (s.extract a (a+2))])∧Below w.heap.size w w':=by
 have h1:=yd5 hc
 have h1b:=yex hd
 have h2:=ycU s a hp
 clear hc hd hp
 go_enter Tryz.func39,Tryz.ntmps39
 go_wp2_with (first|(go_at_call 86;refine (h1 _).mono ?_;rintro e w' ⟨rfl,rfl⟩)|(go_at_call 88;refine (h1b _).mono ?_;rintro e w' ⟨rfl,rfl⟩)|(go_at_call 90;refine (h2 _).mono ?_;rintro e w' ⟨rfl,rfl⟩))
 exact bodyPost_ret (v:=.agg #[.int .i64 4,.int .i64 (a:Int),.string (s.extract a (a+2))]) (by simp [results,Tryz.results39,go_sem]) rfl ⟨rfl,(Below.refl _ _).alloc (Nat.le_refl _) _⟩
theorem ylT (s:ByteArray) (a:Nat) (w:World) (hs:s.size≤2000) (ha:a < s.size) (hc:isL s[a]=false) (hd:isD s[a]=false) (hq:((s[a].toNat:Int) == 39)=false)
  (hp:ycO (s.data.toList.drop a)=false) (hg:isS s[a]=true) :
  Calls Tryz.prog 39 #[.string s,.int .i64 (a:Int)] w fun e w'=>e=.returned (.agg #[.int .i64 4,.int .i64 (a:Int),.string (s.extract a (a+1))])∧Below w.heap.size w w':=by
 have h1:=yd5 hc
 have h1b:=yex hd
 have h2:=ycU s a hp
 have HG:Hid (isS s[a]=true):=hg
 clear hc hd hp hg
 go_enter Tryz.func39,Tryz.ntmps39
 go_wp2_with (first|(go_at_call 86;refine (h1 _).mono ?_;rintro e w' ⟨rfl,rfl⟩)|(go_at_call 88;refine (h1b _).mono ?_;rintro e w' ⟨rfl,rfl⟩)|(go_at_call 90;refine (h2 _).mono ?_;rintro e w' ⟨rfl,rfl⟩)|(go_at_call 91;refine (yd4 _ _).mono ?_;rintro e w' ⟨⟨n,rfl,hn⟩,rfl⟩;replace hn:=hn.2 HG.out))
 exact bodyPost_ret (v:=.agg #[.int .i64 4,.int .i64 (a:Int),.string (s.extract a (a+1))]) (by simp [results,Tryz.results39,go_sem]) rfl ⟨rfl,(Below.refl _ _).alloc (Nat.le_refl _) _⟩
theorem ylR (s:ByteArray) (a:Nat) (w:World) (_hs:s.size≤2000) (ha:a < s.size) (hc:isL s[a]=false) (hd:isD s[a]=false) (hq:((s[a].toNat:Int) == 39)=false)
  (hp:ycO (s.data.toList.drop a)=false) (hg:isS s[a]=false) :
  Calls Tryz.prog 39 #[.string s,.int .i64 (a:Int)] w fun e w'=>e=.returned (.agg #[.int .i64 0,.int .i64 0,.string ⟨#[]⟩])∧Below w.heap.size w w':=by
 have h1:=yd5 hc
 have h1b:=yex hd
 have h2:=ycU s a hp
 have HG:Hid (isS s[a]=false):=hg
 clear hc hd hp hg
 go_enter Tryz.func39,Tryz.ntmps39
 go_wp2_with (first|(go_at_call 86;refine (h1 _).mono ?_;rintro e w' ⟨rfl,rfl⟩)|(go_at_call 88;refine (h1b _).mono ?_;rintro e w' ⟨rfl,rfl⟩)|(go_at_call 90;refine (h2 _).mono ?_;rintro e w' ⟨rfl,rfl⟩)|(go_at_call 91;refine (yd4 _ _).mono ?_;rintro e w' ⟨⟨n,rfl,hn⟩,rfl⟩;replace hn:n < 0:=by (have hx:=HG.out;rcases Int.lt_or_le n 0 with h|h;exact h;rw [hn.1 h] at hx;cases hx)))
 exact bodyPost_ret (v:=.agg #[.int .i64 0,.int .i64 0,.string ⟨#[]⟩]) (by simp [results,Tryz.results39,go_sem]) rfl ⟨rfl,(Below.refl _ _).alloc (Nat.le_refl _) _⟩
def ya2:List UInt8→Nat×Nat
 | []=>(0,0)
 | c::r =>
  if isL c=true then (1,ycv isW r+1)
  else if isD c=true then (2,ycv isD r+1)
  else if c=39 then (if r[ycv isQ r]?=some 39 then (3,ycv isQ r+2) else (0,0))
  else if ycO (c::r)=true then (4,2)
  else if isS c=true then (4,1)
  else (0,0)
def ycP (s:ByteArray) (a:Nat):Value :=
 if (ya2 (s.data.toList.drop a)).1=0 then .agg #[.int .i64 0,.int .i64 0,.string ⟨#[]⟩]
 else .agg #[.int .i64 ((ya2 (s.data.toList.drop a)).1:Nat),.int .i64 (a:Int),.string (s.extract a (a+(ya2 (s.data.toList.drop a)).2))]
theorem yeU (c:UInt8):((c.toNat:Int) == 39)=decide (c=39):=by
 rw [Bool.eq_iff_iff]
 simp
 constructor
 ·intro h;apply UInt8.toNat_inj.1;simp;omega
 ·intro h;subst h;rfl
theorem yok (s:ByteArray) (a:Nat) (w:World) (hs:s.size≤2000) (ha:a < s.size) :
  Calls Tryz.prog 39 #[.string s,.int .i64 (a:Int)] w fun e w'=>e=.returned (ycP s a)∧Below w.heap.size w w':=by
 have hd:=ycF s a ha
 have get:∀ j,(h:j < s.size)→a+1≤j→(s.data.toList.drop (a+1))[j - (a+1)]?=some s[j]:=by
  intro j h hj
  rw [List.getElem?_drop,show a+1+(j - (a+1))=j by omega,List.getElem?_eq_getElem (by simpa using h)];rfl
 cases hL:isL s[a]
 case true =>
  have e:ycP s a=.agg #[.int .i64 1,.int .i64 (a:Int),.string (s.extract a (yar isW s a))]:=by
   have:yar isW s a=a+(ycv isW (s.data.toList.drop (a+1))+1):=by
    rw [ybD isW s a ha (by simp [isW,hL])];unfold yar;omega
   unfold ycP;rw [hd];simp [ya2,hL,this]
  rw [e];exact ylQ s a w hs ha hL
 case false =>
 cases hD:isD s[a]
 case true =>
  have e:ycP s a=.agg #[.int .i64 2,.int .i64 (a:Int),.string (s.extract a (yar isD s a))]:=by
   have:yar isD s a=a+(ycv isD (s.data.toList.drop (a+1))+1):=by
    rw [ybD isD s a ha hD];unfold yar;omega
   unfold ycP;rw [hd];simp [ya2,hL,hD,this]
  rw [e];exact yhK s a w hs ha hL hD
 case false =>
 cases hQ:((s[a].toNat:Int) == 39)
 case true =>
  have hq:s[a]=39:=by rw [yeU] at hQ;simpa using hQ
  have l39:isL 39=false:=by decide
  have d39:isD 39=false:=by decide
  have hsp:yar isQ s (a+1)=a+1+ycv isQ (s.data.toList.drop (a+1)):=rfl
  by_cases he:yar isQ s (a+1) < s.size
  ·have hg:=get _ he (ych isQ s (a+1))
   rw [show yar isQ s (a+1) - (a+1)=ycv isQ (s.data.toList.drop (a+1)) by omega] at hg
   cases hz:((s[yar isQ s (a+1)].toNat:Int) == 39)
   case true =>
    have hz':s[yar isQ s (a+1)]=39:=by rw [yeU] at hz;simpa using hz
    have e:ycP s a=.agg #[.int .i64 3,.int .i64 (a:Int),.string (s.extract a (yar isQ s (a+1)+1))]:=by
     have h2:yar isQ s (a+1)+1=a+(ycv isQ (s.data.toList.drop (a+1))+2):=by omega
     unfold ycP;rw [hd];simp only [ya2,l39,d39,hq,hg,hz',h2];rfl
    rw [e];exact ylU s a w hs ha hL hD hQ he hz
   case false =>
    have hz':¬ s[yar isQ s (a+1)]=39:=by rw [yeU] at hz;simpa using hz
    have e:ycP s a=.agg #[.int .i64 0,.int .i64 0,.string ⟨#[]⟩]:=by
     unfold ycP;rw [hd];simp only [ya2,l39,d39,hq,hg];simp [hz']
    rw [e];exact yhJ s a w hs ha hL hD hQ he hz
  ·have hg:(s.data.toList.drop (a+1))[ycv isQ (s.data.toList.drop (a+1))]?=none:=by
    rw [List.getElem?_eq_none];simp;omega
   have e:ycP s a=.agg #[.int .i64 0,.int .i64 0,.string ⟨#[]⟩]:=by
    unfold ycP;rw [hd];simp only [ya2,l39,d39,hq,hg];simp
   rw [e];exact ylS s a w hs ha hL hD hQ he
 case false =>
 have hq:¬ s[a]=39:=by rw [yeU] at hQ;simpa using hQ
 cases hP:ycO (s.data.toList.drop a)
 case true =>
  have h2:a+2≤s.size:=by
   have:=List.IsPrefix.length_le (List.isPrefixOf_iff_prefix.1 hP)
   simp at this;omega
  have e:ycP s a=.agg #[.int .i64 4,.int .i64 (a:Int),.string (s.extract a (a+2))]:=by
   rw [hd] at hP
   unfold ycP;rw [hd];simp [ya2,hL,hD,hq,hP]
  rw [e];exact ylP s a w hs h2 hL hD hQ hP
 case false =>
 cases hS:isS s[a]
 case true =>
  have e:ycP s a=.agg #[.int .i64 4,.int .i64 (a:Int),.string (s.extract a (a+1))]:=by
   have hP':=hP
   rw [hd] at hP'
   unfold ycP;rw [hd];simp [ya2,hL,hD,hq,hP',hS]
  rw [e];exact ylT s a w hs ha hL hD hQ hP hS
 case false =>
  have e:ycP s a=.agg #[.int .i64 0,.int .i64 0,.string ⟨#[]⟩]:=by
   have hP':=hP
   rw [hd] at hP'
   unfold ycP;rw [hd];simp [ya2,hL,hD,hq,hP',hS]
  rw [e];exact ylR s a w hs ha hL hD hQ hP hS
theorem ygF (w:World):Calls Tryz.prog 92 #[.int .i64 1] w fun e w'=>e=.returned (.int .i64 12)∧w'=w:=by
 go_enter Tryz.func92,Tryz.ntmps92
 go_wp2
 go_ret
 exact ⟨rfl,rfl⟩
theorem ydy (w:World):Calls Tryz.prog 92 #[.int .i64 2] w fun e w'=>e=.returned (.int .i64 9)∧w'=w:=by
 go_enter Tryz.func92,Tryz.ntmps92
 go_wp2
 go_ret
 exact ⟨rfl,rfl⟩
theorem ygG (w:World):Calls Tryz.prog 92 #[.int .i64 3] w fun e w'=>e=.returned (.int .i64 22)∧w'=w:=by
 go_enter Tryz.func92,Tryz.ntmps92
 go_wp2
 go_ret
 exact ⟨rfl,rfl⟩
theorem ylN (w:World):Calls Tryz.prog 92 #[.int .i64 4] w fun e w'=>e=.returned (.int .i64 2)∧w'=w:=by
 go_enter Tryz.func92,Tryz.ntmps92
 go_wp2
 go_ret
 exact ⟨rfl,rfl⟩
theorem ykI (A:Int) (t:ByteArray) (w:World) :
  Calls Tryz.prog 40 #[.agg #[.int .i64 0,.int .i64 A,.string t]] w fun e w'=>e=.returned (.int .i64 1)∧Below w.heap.size w w':=by
 go_enter Tryz.func40,Tryz.ntmps40
 go_wp2
 go_ret
 exact ⟨rfl,(Below.refl _ _).alloc (Nat.le_refl _) _⟩
theorem ygp (A:Int) (t:ByteArray) (w:World) (hs:t.size≤2000) (hl:12 < t.size) :
  Calls Tryz.prog 40 #[.agg #[.int .i64 1,.int .i64 A,.string t]] w fun e w'=>e=.returned (.int .i64 2)∧Below w.heap.size w w':=by
 go_enter Tryz.func40,Tryz.ntmps40
 go_wp2
 go_quiet ((go_at_call 92;exact Calls.quiet_of_same (ygF _)))
 go_wp2
 go_ret
 exact ⟨rfl,below_drewN ((Below.refl _ _).alloc (Nat.le_refl _) _) _⟩
theorem yi8 (A:Int) (t:ByteArray) (w:World) (hs:t.size≤2000) (hl:t.size≤12) :
  Calls Tryz.prog 40 #[.agg #[.int .i64 1,.int .i64 A,.string t]] w fun e w'=>e=.returned (.int .i64 0)∧Below w.heap.size w w':=by
 go_enter Tryz.func40,Tryz.ntmps40
 go_wp2
 go_quiet ((go_at_call 92;exact Calls.quiet_of_same (ygF _)))
 go_wp2
 go_ret
 exact ⟨rfl,below_drewN ((Below.refl _ _).alloc (Nat.le_refl _) _) _⟩
theorem ygq (A:Int) (t:ByteArray) (w:World) (hs:t.size≤2000) (hl:9 < t.size) :
  Calls Tryz.prog 40 #[.agg #[.int .i64 2,.int .i64 A,.string t]] w fun e w'=>e=.returned (.int .i64 2)∧Below w.heap.size w w':=by
 go_enter Tryz.func40,Tryz.ntmps40
 go_wp2
 go_quiet ((go_at_call 92;exact Calls.quiet_of_same (ydy _)))
 go_wp2
 go_ret
 exact ⟨rfl,below_drewN ((Below.refl _ _).alloc (Nat.le_refl _) _) _⟩
theorem yht (A:Int) (t:ByteArray) (w:World) (hs:t.size≤2000) (hl:t.size≤1) :
  Calls Tryz.prog 40 #[.agg #[.int .i64 2,.int .i64 A,.string t]] w fun e w'=>e=.returned (.int .i64 0)∧Below w.heap.size w w':=by
 go_enter Tryz.func40,Tryz.ntmps40
 go_wp2
 go_quiet ((go_at_call 92;exact Calls.quiet_of_same (ydy _)))
 go_wp2
 go_ret
 exact ⟨rfl,below_drewN ((Below.refl _ _).alloc (Nat.le_refl _) _) _⟩
theorem ye5 (A:Int) (t:ByteArray) (w:World) (hs:t.size≤2000) (hl:t.size≤9) (h1:1 < t.size) (hz:((t[0].toNat:Int) == 48)=true) :
  Calls Tryz.prog 40 #[.agg #[.int .i64 2,.int .i64 A,.string t]] w fun e w'=>e=.returned (.int .i64 1)∧Below w.heap.size w w':=by
 go_enter Tryz.func40,Tryz.ntmps40
 go_wp2
 go_quiet ((go_at_call 92;exact Calls.quiet_of_same (ydy _)))
 go_wp2
 go_ret
 exact ⟨rfl,below_drewN ((Below.refl _ _).alloc (Nat.le_refl _) _) _⟩
theorem yi9 (A:Int) (t:ByteArray) (w:World) (hs:t.size≤2000) (hl:t.size≤9) (h1:1 < t.size) (hz:((t[0].toNat:Int) == 48)=false) :
  Calls Tryz.prog 40 #[.agg #[.int .i64 2,.int .i64 A,.string t]] w fun e w'=>e=.returned (.int .i64 0)∧Below w.heap.size w w':=by
 go_enter Tryz.func40,Tryz.ntmps40
 go_wp2
 go_quiet ((go_at_call 92;exact Calls.quiet_of_same (ydy _)))
 go_wp2
 go_ret
 exact ⟨rfl,below_drewN ((Below.refl _ _).alloc (Nat.le_refl _) _) _⟩
theorem ygr (A:Int) (t:ByteArray) (w:World) (hs:t.size≤2000) (hl:22 < t.size) :
  Calls Tryz.prog 40 #[.agg #[.int .i64 3,.int .i64 A,.string t]] w fun e w'=>e=.returned (.int .i64 2)∧Below w.heap.size w w':=by
 go_enter Tryz.func40,Tryz.ntmps40
 go_wp2
 go_quiet ((go_at_call 92;exact Calls.quiet_of_same (ygG _)))
 go_wp2
 go_ret
 exact ⟨rfl,below_drewN ((Below.refl _ _).alloc (Nat.le_refl _) _) _⟩
theorem yja (A:Int) (t:ByteArray) (w:World) (hs:t.size≤2000) (hl:t.size≤22) :
  Calls Tryz.prog 40 #[.agg #[.int .i64 3,.int .i64 A,.string t]] w fun e w'=>e=.returned (.int .i64 0)∧Below w.heap.size w w':=by
 go_enter Tryz.func40,Tryz.ntmps40
 go_wp2
 go_quiet ((go_at_call 92;exact Calls.quiet_of_same (ygG _)))
 go_wp2
 go_ret
 exact ⟨rfl,below_drewN ((Below.refl _ _).alloc (Nat.le_refl _) _) _⟩
theorem yjb (A:Int) (t:ByteArray) (w:World) (hs:t.size≤2000) (hl:t.size≤2) :
  Calls Tryz.prog 40 #[.agg #[.int .i64 4,.int .i64 A,.string t]] w fun e w'=>e=.returned (.int .i64 0)∧Below w.heap.size w w':=by
 go_enter Tryz.func40,Tryz.ntmps40
 go_wp2
 go_quiet ((go_at_call 92;exact Calls.quiet_of_same (ylN _)))
 go_wp2
 go_ret
 exact ⟨rfl,below_drewN ((Below.refl _ _).alloc (Nat.le_refl _) _) _⟩
def yay (k:Nat) (l:List UInt8):Nat :=
 if k=0 then 1
 else if (k=1∧12 < l.length)∨(k=2∧9 < l.length)∨(k=3∧22 < l.length) then 2
 else if k=2∧1 < l.length∧l.head?=some 48 then 1
 else 0
structure Tk where
 k:Int
 a:Int
 t:List UInt8
def Tk.cells (x:Tk):List Value:=[.int .i64 x.k,.int .i64 x.a,.string ⟨x.t.toArray⟩]
def ybA (l:List Tk):List Value:=l.flatMap Tk.cells
theorem yeo (l:List Tk) (x:Tk):ybA (l++[x])=ybA l++x.cells:=by simp [ybA]
def ybC:Nat→Nat→List UInt8→List Tk→List Tk×Nat×Nat
 | 0,_,_,acc=>(acc,0,0)
 | _+1,_,[],acc=>(acc,0,0)
 | f+1,a,c::r,acc =>
  if isB c=true then ybC f (a+1) r acc
  else if yay (ya2 (c::r)).1 ((c::r).take (ya2 (c::r)).2)=0 then
   ybC f (a+(ya2 (c::r)).2) ((c::r).drop (ya2 (c::r)).2) (acc++[⟨((ya2 (c::r)).1:Nat),(a:Nat),(c::r).take (ya2 (c::r)).2⟩])
  else ([],a,yay (ya2 (c::r)).1 ((c::r).take (ya2 (c::r)).2))
def ya4 (a:Nat) (l:List UInt8) (acc:List Tk):List Tk×Nat×Nat:=ybC (l.length+1) a l acc
theorem ycK (c:UInt8) (r:List UInt8) (h:(ya2 (c::r)).1≠0):1≤(ya2 (c::r)).2:=by
 revert h
 rw [ya2]
 split
 ·intro _;simp
 ·split
  ·intro _;simp
  ·split
   ·split
    ·intro _;simp
    ·intro h;exact absurd rfl h
   ·split
    ·intro _;simp
    ·split
     ·intro _;simp
     ·intro h;exact absurd rfl h
theorem ygd (l:List UInt8):(ya2 l).2≤l.length:=by
 cases l with
 | nil=>simp [ya2]
 | cons c r =>
  have h1:=yf5 isW r
  have h2:=yf5 isD r
  have h3:=yf5 isQ r
  rw [ya2]
  split
  ·simp;omega
  ·split
   ·simp;omega
   ·split
    ·split
     ·rename_i h
      have:ycv isQ r < r.length:=by
       rcases Nat.lt_or_ge (ycv isQ r) r.length with g|g
       ·exact g
       ·rw [List.getElem?_eq_none g] at h;cases h
      simp;omega
     ·simp
    ·split
     ·rename_i h
      have:=List.IsPrefix.length_le (List.isPrefixOf_iff_prefix.1 h)
      simpa using this
     ·split
      ·simp
      ·simp
theorem yc1 (l:List UInt8):(ya2 l).1≤4∧((ya2 l).1=4→(ya2 l).2≤2):=by
 cases l with
 | nil=>simp [ya2]
 | cons c r =>
  rw [ya2]
  split
  ·simp
  ·split
   ·simp
   ·split
    ·split
     ·simp
     ·simp
    ·split
     ·simp
     ·split
      ·simp
      ·simp
theorem ybZ {k:Nat} {l:List UInt8} (h:yay k l=0):k≠0:=by
 intro e;subst e;simp [yay] at h
theorem yia (f:Nat):∀ (g a:Nat) (l:List UInt8) (acc:List Tk),l.length < f→l.length < g→ybC f a l acc=ybC g a l acc:=by
 induction f with
 | zero=>intro g a l acc h;omega
 | succ f ih =>
  intro g a l acc hf hg
  cases g with
  | zero=>omega
  | succ g =>
   cases l with
   | nil=>rfl
   | cons c r =>
    simp only [List.length_cons] at hf hg
    unfold ybC
    split
    ·exact ih g (a+1) r acc (by omega) (by omega)
    ·split
     ·rename_i h
      have:=ycK c r (ybZ h)
      exact ih g _ _ _ (by simp only [List.length_drop,List.length_cons];omega) (by simp only [List.length_drop,List.length_cons];omega)
     ·rfl
theorem yms (a:Nat) (acc:List Tk):ya4 a [] acc=(acc,0,0):=rfl
theorem ydn (a:Nat) (c:UInt8) (r:List UInt8) (acc:List Tk) (h:isB c=true):ya4 a (c::r) acc=ya4 (a+1) r acc:=by
 unfold ya4;rw [ybC,if_pos h];rfl
theorem yeP (a:Nat) (c:UInt8) (r:List UInt8) (acc:List Tk) (h:isB c=false) (hw:yay (ya2 (c::r)).1 ((c::r).take (ya2 (c::r)).2)=0) :
  ya4 a (c::r) acc=ya4 (a+(ya2 (c::r)).2) ((c::r).drop (ya2 (c::r)).2) (acc++[⟨((ya2 (c::r)).1:Nat),(a:Nat),(c::r).take (ya2 (c::r)).2⟩]):=by
 have:=ycK c r (ybZ hw)
 unfold ya4;rw [ybC,if_neg (by simp [h]),if_pos hw]
 exact yia _ _ _ _ _ (by simp only [List.length_drop,List.length_cons];omega) (by omega)
theorem ygT (a:Nat) (c:UInt8) (r:List UInt8) (acc:List Tk) (h:isB c=false) (hw:yay (ya2 (c::r)).1 ((c::r).take (ya2 (c::r)).2)≠0) :
  ya4 a (c::r) acc=([],a,yay (ya2 (c::r)).1 ((c::r).take (ya2 (c::r)).2)):=by
 unfold ya4;rw [ybC,if_neg (by simp [h]),if_neg hw]
theorem ygU (l:List UInt8):∀ (a:Nat) (acc:List Tk),ya4 a l acc=ya4 (a+ycv isB l) (l.drop (ycv isB l)) acc:=by
 induction l with
 | nil=>intro a acc;rfl
 | cons c r ih =>
  intro a acc
  rw [ybS]
  split
  ·rename_i h;rw [ydn a c r acc h,ih (a+1) acc,List.drop_succ_cons];congr 1;omega
  ·rfl
def yaU (s:List UInt8):List Tk×Nat×Nat:=if 2000 < s.length then ([],0,2) else ya4 0 s []
theorem ykJ (k:Nat) (A:Int) (t:ByteArray) (w:World) (hs:t.size≤2000) (hk:k≤4) (h4:k=4→t.size≤2) :
  Calls Tryz.prog 40 #[.agg #[.int .i64 (k:Int),.int .i64 A,.string t]] w fun e w'=>e=.returned (.int .i64 (yay k t.data.toList:Nat))∧Below w.heap.size w w':=by
 have hl:t.data.toList.length=t.size:=by simp
 match k,hk,h4 with
 | 0,_,_=>exact ykI A t w
 | 1,_,_ =>
  by_cases h:12 < t.size
  ·rw [show yay 1 t.data.toList=2 by simp [yay,h]];exact ygp A t w hs h
  ·rw [show yay 1 t.data.toList=0 by simp [yay];omega];exact yi8 A t w hs (by omega)
 | 2,_,_ =>
  by_cases h:9 < t.size
  ·rw [show yay 2 t.data.toList=2 by simp [yay,h]];exact ygq A t w hs h
  ·by_cases h1:1 < t.size
   ·have hh:t.data.toList.head?=some t[0]:=by
     rw [List.head?_eq_getElem?,List.getElem?_eq_getElem (by simp;omega)];rfl
    cases hz:((t[0].toNat:Int) == 48)
    ·have hz':¬ t[0]=48:=by
      intro e;rw [e] at hz;revert hz;decide
     rw [show yay 2 t.data.toList=0 by unfold yay;rw [hh];simp [h,hz']];exact yi9 A t w hs (by omega) h1 hz
    ·have hz':t[0]=48:=by
      apply UInt8.toNat_inj.1;have:=eq_of_beq hz;simp;omega
     rw [show yay 2 t.data.toList=1 by unfold yay;rw [hh];simp [h,h1,hz']];exact ye5 A t w hs (by omega) h1 hz
   ·rw [show yay 2 t.data.toList=0 by simp [yay,h,h1]];exact yht A t w hs (by omega)
 | 3,_,_ =>
  by_cases h:22 < t.size
  ·rw [show yay 3 t.data.toList=2 by simp [yay,h]];exact ygr A t w hs h
  ·rw [show yay 3 t.data.toList=0 by simp [yay,h]];exact yja A t w hs (by omega)
 | 4,_,h4=>rw [show yay 4 t.data.toList=0 by simp [yay]];exact yjb A t w hs (h4 rfl)
theorem Tryz.info34:(Tryz.prog.info? 63).map (fun i=>(i.zero,i.size,i.bytes))=some (some (.agg #[.int .i64 0,.int .i64 0,.string ⟨#[]⟩]),3,32):=by kernel_rfl
theorem ymu (s:ByteArray) (w:World) (hs:2000 < s.size) (hm:s.size≤9223372036854775000) :
  Calls Tryz.prog 15 #[.string s] w fun e w'=>e=.returned (.tuple #[.slice none 0 0,.int .i64 0,.int .i64 2])∧w'=w:=by
 go_enter Tryz.func15,Tryz.ntmps15
 go_wp2
 go_ret3
 exact ⟨rfl,rfl⟩
theorem ygX (s:ByteArray) (k:Nat) (acc:List Tk) (K N:Nat) (h:k < s.size) (hp:ya2 (s.data.toList.drop k)=(K,N)) (hB:isB s[k]=false) :
  (yay K ((s.data.toList.drop k).take N)=0→ya4 k (s.data.toList.drop k) acc=ya4 (k+N) (s.data.toList.drop (k+N)) (acc++[⟨(K:Nat),(k:Nat),(s.data.toList.drop k).take N⟩])) ∧
  (yay K ((s.data.toList.drop k).take N)≠0→ya4 k (s.data.toList.drop k) acc=([],k,yay K ((s.data.toList.drop k).take N))):=by
 have hd:=ycF s k h
 rw [hd] at hp ⊢
 constructor
 ·intro hw
  have:=yeP k s[k] (s.data.toList.drop (k+1)) acc hB (by rw [hp];exact hw)
  rw [this,hp,← hd,List.drop_drop]
 ·intro hw
  have:=ygT k s[k] (s.data.toList.drop (k+1)) acc hB (by rw [hp];exact hw)
  rw [this,hp]
theorem ygY (s:ByteArray) (k:Nat) (acc:List Tk):ya4 k (s.data.toList.drop k) acc=ya4 (yar isB s k) (s.data.toList.drop (yar isB s k)) acc:=by
 rw [ygU,List.drop_drop];rfl
theorem yfH (p:UInt8→Bool) (s:ByteArray) (k:Nat) (h:yar p s k < s.size):p s[yar p s k]=false:=by
 have hh:∀ (l:List UInt8) (x:UInt8),l[ycv p l]?=some x→p x=false:=by
  intro l
  induction l with
  | nil=>intro x h;simp at h
  | cons c r ih =>
   intro x h
   rw [ybS] at h
   by_cases hc:p c=true
   ·rw [if_pos hc] at h;exact ih x (by simpa using h)
   ·rw [if_neg hc] at h;simp at h;subst h;simpa using hc
 apply hh (s.data.toList.drop k)
 rw [List.getElem?_drop,List.getElem?_eq_getElem (by simpa [yar] using h)];rfl
theorem ycB {w w':World} {base:Nat} {e:TypeId} {size:Nat} {v:Value} {n:Nat} {xs:List Value} (h:w.ownsRow base e size v n xs) (hb:Below w.heap.size w w'):w'.ownsRow base e size v n xs :=
 h.kept (row:=none) ⟨hb.os,hb.tape,hb.output,hb.size,fun k hk _=>hb.block k hk⟩ (by cases hv:v.ownBlock <;> simp)
theorem yf9 (s:ByteArray) (a:Nat) (i:Int) (w:World) (hi:i=(a:Int)) (hs:s.size≤9223372036854775000) (ha:a≤s.size) :
  Calls Tryz.prog 37 #[.string s,.int .i64 i,.func (.func 38) #[] #[]] w fun e w'=>e=.returned (.int .i64 (yar isB s a:Nat))∧w'=w:=by
 subst hi;exact yfG s a w hs ha
theorem yiX {w w':World} {row:Option Nat} (hg:w.grownBy w' row) {b o:Nat} (hb:b < w.heap.size) (hr:some b≠row):w'.cell? ⟨b,o,none⟩=w.cell? ⟨b,o,none⟩ :=
 World.cell?_of_block (w:=w) (hg.block b hb hr)
theorem ybn {w:World} (o:Obj) {b i:Nat} (h:b < w.heap.size):(w.alloc o).cell? ⟨b,i,none⟩=w.cell? ⟨b,i,none⟩ :=
 ((Below.refl w.heap.size w).alloc (Nat.le_refl _) o).cell (p:=⟨b,i,none⟩) h
theorem yjX (s:ByteArray) (w:World) (hs:s.size≤2000) :
  Calls Tryz.prog 15 #[.string s] w fun e w'=>∃ v,e=.returned (.tuple #[v,.int .i64 ((ya4 0 s.data.toList []).2.1:Nat),.int .i64 ((ya4 0 s.data.toList []).2.2:Nat)]) ∧
   w'.ownsRow w.heap.size 63 3 v (ya4 0 s.data.toList []).1.length (ybA (ya4 0 s.data.toList []).1)∧Below w.heap.size w w':=by
 obtain ⟨i0,hi,hz0,hz1,hz2⟩:=info_parts Tryz.info34
 have hbs:decide ((2000:Int) < (s.size:Int))=false:=by simp;omega
 have hb0:=yej isB s 0 (by omega)
 have hst:=ygY s 0 []
 simp only [List.drop_zero] at hst
 have HS:Hid (ya4 0 s.data.toList []=ya4 (yar isB s 0) (List.drop (yar isB s 0) s.data.toList) []):=hst
 clear hst
 have HT:Hid (∀ h:yar isB s 0 < s.size,isB s[yar isB s 0]=false):=yfH isB s 0
 go_enter Tryz.func15,Tryz.ntmps15
 go_wp2_with (go_at_call 37;refine (yfG s 0 _ (by omega) (by omega)).mono ?_;rintro e w' ⟨rfl,hw'⟩;obtain rfl:=hw'.symm;clear hw')
 go_loopw [5,6] (fun v i wr=>∃ (k:Nat) (acc:List Tk),k≤s.size∧i=.int .i64 k∧wr.ownsRow w.heap.size 63 3 v acc.length (ybA acc)∧Below w.heap.size w wr∧acc.length≤k ∧
   Hid (ya4 k (s.data.toList.drop k) acc=ya4 0 s.data.toList [])∧Hid ((h:k < s.size)→isB s[k]=false)) (fun _ i _=>s.size - (intOf i).toNat)
 case atStart =>
  exact ⟨_,[],hb0,rfl,World.ownsRow_nil _ _ _ _,Below.refl _ _,Nat.zero_le _,HS.out.symm,HT⟩
 case round =>
  obtain ⟨k,acc,hk,rfl,hown,hnx,hacc,HE,HB⟩:=hrel
  clear HS HT hb0
  by_cases hlt:k < s.size
  ·have hsz:=hnx.size
   obtain ⟨K,N,hp⟩:∃ K N,ya2 (s.data.toList.drop k)=(K,N):=⟨_,_,rfl⟩
   have hk4:=(yc1 (s.data.toList.drop k)).1
   have hk5:=(yc1 (s.data.toList.drop k)).2
   have hnl:=ygd (s.data.toList.drop k)
   have hn:=yok s k wr hs hlt
   obtain ⟨g0,g1⟩:=ygX s k acc K N hlt hp (HB.out hlt)
   rw [HE.out] at g0 g1
   have hpos:K≠0→1≤N:=by
    have:=ycK s[k] (s.data.toList.drop (k+1))
    rw [← ycF s k hlt,hp] at this;exact this
   rw [ycP,hp] at hn
   rw [hp] at hk4 hk5 hnl
   simp only [List.length_drop] at hnl hk4 hk5
   have hnl':N≤s.size - k:=by simpa using hnl
   clear hnl hp HB HE
   by_cases hK:K=0
   ·subst hK
    simp only [if_true] at hn
    have G:=g1 (by simp [yay])
    have HG:Hid (ya4 0 s.data.toList []=([],k,1)):=G.trans (by simp [yay])
    clear G g0 g1 hk5 hpos hk4 hnl'
    go_wp2_with (first|(go_at_call 39;refine hn.mono ?_;rintro e w1 ⟨rfl,hb1⟩)|(go_at_call 40;refine (ykI _ _ _).mono ?_;rintro e w2 ⟨rfl,hb2⟩))
    go_ret3
    refine ⟨.slice none 0 0,by rw [HG.out];rfl,by rw [HG.out];exact World.ownsRow_nil _ _ _ _, ?_⟩
    exact hnx.trans ((((hb1.mono hsz).alloc (by have:=hb1.size;omega) _).trans (hb2.mono (by have:=hb1.size;simp;omega))))
   ·simp only [hK,if_false] at hn
    obtain ⟨T,hT⟩:∃ T,T=s.extract k (k+N):=⟨_,rfl⟩
    have hTs:T.size=N:=by rw [hT];simp;omega
    have hTl:T.data.toList=(s.data.toList.drop k).take N:=by rw [hT,Lib.extract_data];congr 1;omega
    rw [← hT] at hn
    rw [← hTl] at g0 g1
    have hf:=fun (A:Int) (W:World)=>ykJ K A T W (by omega) hk4 (by omega)
    obtain ⟨E,hE⟩:∃ E,yay K T.data.toList=E:=⟨_,rfl⟩
    rw [hE] at g0 g1 hf
    have hN1:=hpos hK
    clear hE hT hTl hpos hk5 hK
    have HT:Hid (T.size=N):=hTs
    have hTs2:T.size≤s.size - k:=by omega
    have hTs1:1≤T.size:=by omega
    clear hTs
    by_cases hE0:E=0
    ·subst hE0
     have g0':Hid (ya4 0 s.data.toList []=ya4 (k+N) (s.data.toList.drop (k+N)) (acc++[⟨(K:Nat),(k:Nat),T.data.toList⟩])):=g0 rfl
     clear g0 g1
     go_wp2_with (first|(go_at_call 39;refine hn.mono ?_;rintro e w1 ⟨rfl,hb1⟩)|(go_at_call 40;refine (hf _ _).mono ?_;rintro e w2 ⟨rfl,hb2⟩;have c0:w2.cell? ⟨w1.heap.size,0,none⟩=some (.int .i64 (K:Nat)):=(hb2.cell (by simp)).trans (by simp);have c1:w2.cell? ⟨w1.heap.size,1,none⟩=some (.int .i64 (k:Nat)):=(hb2.cell (by simp)).trans (by simp);have c2:w2.cell? ⟨w1.heap.size,2,none⟩=some (.string T):=(hb2.cell (by simp)).trans (by simp))|(at_builtin;refine wpList_append_own _ rfl _ _ 40 rfl w.heap.size 63 i0 (.agg #[.int .i64 0,.int .i64 0,.string ⟨#[]⟩]) 3 32 Tryz.underlying40 hi hz0 hz1 hz2 rfl (by decide) _ _ _ rfl ((ycB ((ycB hown hb1).alloc _) hb2).alloc _) ⟨w2.heap.size,0,none⟩ 1 1 [.int .i64 (K:Nat),.int .i64 (k:Nat),.string T] rfl rfl ?c1 ?c2 ?c3 ?c4 ?c5 ?_))
     case c1 =>
      intro j u hj
      match j,hj with
      | 0,hj=>simp at hj;subst hj;simp [Addr.add]
      | 1,hj=>simp at hj;subst hj;simp [Addr.add]
      | 2,hj=>simp at hj;subst hj;simp [Addr.add]
     case c2=>intro u hu;simp at hu;rcases hu with rfl|rfl|rfl <;> rfl
     case c3=>unfold maxLen;omega
     case c4=>omega
     case c5=>have:=hb1.size;have:=hb2.size;simp at this ⊢;omega
     intro v' w3 hown' hgrow _
     have s1:=hb1.size
     have s2:w1.heap.size+1≤w2.heap.size:=by have:=hb2.size;simpa using this
     have hlt5:=hown.lt
     have hc3:w3.cell? ⟨w1.heap.size,2,none⟩=some (.string T):=(yiX hgrow (by simp;omega) (by intro e;have:=(hlt5 _ e.symm).2;omega)).trans ((ybn _ (by omega)).trans c2)
     have hB3:Below w.heap.size w w3:=(((hnx.trans (((hb1.mono hsz).alloc (by omega) _).trans (hb2.mono (by simp;omega)))).alloc (by omega) _).grown hgrow (by simp;omega) (fun j hj=>(hlt5 j hj).1))
     have hle:=yej isB s (k+N) (by omega)
     have hge:=ych isB s (k+N)
     have R1:Hid (ya4 (yar isB s (k+N)) (s.data.toList.drop (yar isB s (k+N))) (acc++[⟨(K:Nat),(k:Nat),T.data.toList⟩])=ya4 0 s.data.toList []):=((g0'.out).trans (ygY s (k+N) _)).symm
     have R2:Hid (∀ h:yar isB s (k+N) < s.size,isB s[yar isB s (k+N)]=false):=yfH isB s (k+N)
     have R3:w3.ownsRow w.heap.size 63 3 v' (acc++[(⟨(K:Nat),(k:Nat),T.data.toList⟩:Tk)]).length (ybA (acc++[⟨(K:Nat),(k:Nat),T.data.toList⟩])):=by
      rw [yeo,List.length_append];exact hown'
     clear hown' hgrow hown g0' c0 c1 c2 hb1 hb2 hn hf hlt5
     go_wp2_with (go_at_call 37;refine (yf9 s (k+N) _ _ (by have:=HT.out;omega) (by omega) (by omega)).mono ?_;rintro e w' ⟨rfl,hw'⟩;obtain rfl:=hw'.symm;clear hw')
     go_roundw
     case rel=>exact ⟨yar isB s (k+N),_,hle,rfl,R3,hB3,by simp;omega,R1,R2⟩
     case measure=>simp [intOf];omega
    ·have hEb:((E:Int) != 0)=true:=by simp;omega
     have HG:Hid (ya4 0 s.data.toList []=([],k,E)):=g1 hE0
     clear g0 g1 hE0
     go_wp2_with (first|(go_at_call 39;refine hn.mono ?_;rintro e w1 ⟨rfl,hb1⟩)|(go_at_call 40;refine (hf _ _).mono ?_;rintro e w2 ⟨rfl,hb2⟩))
     go_ret3
     refine ⟨.slice none 0 0,by rw [HG.out];rfl,by rw [HG.out];exact World.ownsRow_nil _ _ _ _, ?_⟩
     exact hnx.trans ((((hb1.mono hsz).alloc (by have:=hb1.size;omega) _).trans (hb2.mono (by have:=hb1.size;simp;omega))))
  ·have hks:k=s.size:=by omega
   have hd:s.data.toList.drop k=[]:=List.drop_eq_nil_of_le (by simp;omega)
   have HG:Hid (ya4 0 s.data.toList []=(acc,0,0)):=by rw [← HE.out,hd];rfl
   clear hd hks HE HB
   go_wp2
   go_ret3
   exact ⟨_,by rw [HG.out];rfl,by rw [HG.out];exact hown,hnx⟩
theorem Tryz.infoB5:(Tryz.prog.info? 5).map (fun i=>(i.zero,i.size,i.bytes))=some (some (.int .u8 0),1,1):=by kernel_rfl
theorem Tryz.sizeB45:(Tryz.prog.info? 71).map (·.size)=some 2:=by kernel_rfl
theorem Tryz.liesB45:liesAt Tryz.prog Tryz.prog.depth 71 (2 / Tryz.prog.cellsOf 71) 0 71 1=true:=by kernel_rfl
theorem ydb (b:Nat) (w:World) (h0:w.cell? ⟨b,0,none⟩=some (.pointer (some ⟨b,0,none⟩))) :
  Calls Tryz.prog 93 #[.pointer (some ⟨b,0,none⟩)] w fun e w'=>e=.returned (.tuple #[])∧w'=w:=by
 obtain ⟨j,hj,_⟩:=Option.map_eq_some_iff.1 Tryz.sizeB45
 go_enter Tryz.func93,Tryz.ntmps93
 go_wp2
 rw [Lib.run_neq_ptr_same w _ Tryz.underlying68 hj]
 go_wp2
 go_end0
 exact ⟨rfl,rfl⟩
theorem yev (b:Nat) (w:World) (h0:w.cell? ⟨b,0,none⟩=some (.pointer none)) (hsh:w.shape? b=some (71,2)) (hfz:w.frozen? ⟨b,0,none⟩=false) :
  Calls Tryz.prog 93 #[.pointer (some ⟨b,0,none⟩)] w fun e w'=>e=.returned (.tuple #[])∧w'=w.setCell ⟨b,0,none⟩ (.pointer (some ⟨b,0,none⟩)):=by
 obtain ⟨j,hj,hjs⟩:=Option.map_eq_some_iff.1 Tryz.sizeB45
 go_enter Tryz.func93,Tryz.ntmps93
 go_wp2
 rw [Lib.run_to_unsafe w ⟨b,0,none⟩ Tryz.underlying68 Tryz.underlying132 hj (by rw [hjs];decide) hsh (Nat.zero_lt_succ 1)]
 simp only [Result.andThen]
 rw [Oper.upon_value]
 go_wp2
 rw [run_callFunc_extern Tryz.func133 (by kernel_rfl) (by kernel_rfl) (by kernel_rfl) (e:=Extern.AbiNoEscape.same) (by kernel_rfl)]
 rw [Lib.run_noEscape]
 simp only [Result.andThen]
 rw [Oper.upon_value]
 go_wp2
 rw [Lib.run_from_unsafe w ⟨b,0,none⟩ Tryz.underlying132 Tryz.underlying68 hj hsh Tryz.liesB45]
 simp only [Result.andThen]
 rw [Oper.upon_value]
 go_wp2
 go_end0
 exact ⟨rfl,rfl⟩
theorem ydt (B b:Nat) (bs:List Value) (w:World) (h:Lib.IsBuilder 71 5 B b bs w) :
  Calls Tryz.prog 93 #[.pointer (some ⟨b,0,none⟩)] w fun e w'=>e=.returned (.tuple #[])∧Lib.BuilderAt 71 5 B b (.pointer (some ⟨b,0,none⟩)) bs w'∧Below B w w'∧Lib.OthersKept 5 (some b) w w':=by
 rcases h with h|h
 ·refine (yev b w h.cell0 h.shape h.frozen0).mono ?_
  rintro e w' ⟨rfl,rfl⟩
  exact ⟨rfl,h.used _,(Below.refl B w).setCell (p:=⟨b,0,none⟩) h.1 _,(Lib.OthersKept.refl 5 (some b) w).setCell ⟨b,0,none⟩ rfl _⟩
 ·refine (ydb b w h.cell0).mono ?_
  rintro e w' ⟨rfl,rfl⟩
  exact ⟨rfl,h,Below.refl B _,Lib.OthersKept.refl 5 (some b) _⟩
theorem yb4 {w:World} {B:Nat} {e:TypeId} {v:Value} {n:Nat} {xs:List Value} (h:w.ownsRow B e 1 v n xs):∀ g,v.ownBlock=some g→∃ c fz,w.heap[g]?=some (.cells c e fz):=by
 intro g hg
 rcases h.2 with ⟨rfl,_⟩|⟨g',cap,cur,rfl,_,hgg,_⟩
 ·simp [Value.ownBlock] at hg
 ·simp [Value.ownBlock] at hg
  subst hg
  exact ⟨cur,_,hgg⟩
theorem ygj (B b:Nat) (bs:List Value) (c:Int) (w:World) (h:Lib.IsBuilder 71 5 B b bs w) (hlen:bs.length+1≤140737488355328) (hBw:B≤w.heap.size) :
  Calls Tryz.prog 42 #[.pointer (some ⟨b,0,none⟩),.int .u8 c] w fun e w'=>e=.returned .nilIface∧Lib.BuilderAt 71 5 B b (.pointer (some ⟨b,0,none⟩)) (bs++[.int .u8 c]) w'∧Below B w w'∧Lib.OthersKept 5 (some b) w w':=by
 obtain ⟨i0,hi,hz0,hz1,hz2⟩:=info_parts Tryz.infoB5
 go_enter Tryz.func42,Tryz.ntmps42
 go_wp2_with (go_at_call 93;refine (ydt B b bs _ h).mono ?_)
 rintro e w1 ⟨rfl,h1,hb1,ho1⟩
 obtain ⟨hB,v,hbk,hown,hne⟩:=h1
 have c0:w1.cell? ⟨b,0,none⟩=some (.pointer (some ⟨b,0,none⟩)):=by rw [Lib.cell_of_heap hbk];rfl
 have c1:w1.cell? ⟨b,1,none⟩=some v:=by rw [Lib.cell_of_heap hbk];rfl
 go_wp2_with (at_builtin;refine wpList_append_own _ rfl _ _ 69 rfl B 5 i0 (.int .u8 0) 1 1 Tryz.underlying69 hi hz0 hz1 hz2 rfl (by decide) _ _ _ rfl (hown.alloc _) ⟨w1.heap.size,0,none⟩ 1 1 [.int .u8 c] rfl rfl ?c1 ?c2 ?c3 ?c4 ?c5 ?_)
 case c1 =>
  intro j u hj
  match j,hj with
  | 0,hj=>simp at hj;subst hj;simp [Addr.add]
 case c2=>intro u hu;simp at hu;subst hu;rfl
 case c3=>unfold maxLen;omega
 case c4=>omega
 case c5=>have:=hb1.size;simp;omega
 intro v' w2 hown' hgrow _
 have hlt:b < w1.heap.size:=by
  rcases Nat.lt_or_ge b w1.heap.size with h'|h'
  ·exact h'
  ·simp [Array.getElem?_eq_none h'] at hbk
 have hb2:w2.heap[b]?=some (.cells #[.pointer (some ⟨b,0,none⟩),v] 71 (0,0)):=by
  rw [hgrow.block b (by simp;omega) (fun e=>hne e.symm),Lib.alloc_old w1 _ b hlt]
  exact hbk
 have d0:w2.cell? ⟨b,0,none⟩=some (.pointer (some ⟨b,0,none⟩)):=by rw [Lib.cell_of_heap hb2];rfl
 have d1:w2.cell? ⟨b,1,none⟩=some v:=by rw [Lib.cell_of_heap hb2];rfl
 have f1:w2.frozen? ⟨b,1,none⟩=false:=Lib.frozen_of_heap hb2 1
 obtain ⟨g,cap,rfl⟩:∃ g cap,v'=.slice (some ⟨g,0,none⟩) (bs.length+1) cap:=by
  rcases hown'.2 with ⟨_,h0⟩|⟨g,cap,cur,hv,_⟩
  ·omega
  ·exact ⟨g,cap,hv⟩
 go_wp2
 go_ret
 refine ⟨rfl, ?_, ?_, ?_⟩
 ·exact Lib.BuilderAt.put (T:=71) (e:=5) hB hb2 (bs':=bs++[.int .u8 c]) (by simpa using hown') (by decide)
 ·exact ((hb1.alloc (by have:=hb1.size;omega) _).grown hgrow (by have:=hb1.size;simp;omega) (fun k hk=>(hown.lt k hk).1)).setCell (p:=⟨b,1,none⟩) hB _
 ·exact ((ho1.alloc _).grown hgrow (yb4 (hown.alloc _))).setCell ⟨b,1,none⟩ rfl _
theorem yc2 (B b:Nat) (bs:List Value) (s:ByteArray) (w:World) (h:Lib.IsBuilder 71 5 B b bs w) (hlen:bs.length+s.size≤140737488355328) (hBw:B≤w.heap.size) :
  Calls Tryz.prog 43 #[.pointer (some ⟨b,0,none⟩),.string s] w fun e w'=>e=.returned (.tuple #[.int .i64 s.size,.nilIface])∧Lib.BuilderAt 71 5 B b (.pointer (some ⟨b,0,none⟩)) (bs++Lib.strCells s) w'∧Below B w w'∧Lib.OthersKept 5 (some b) w w':=by
 obtain ⟨i0,hi,hz0,hz1,hz2⟩:=info_parts Tryz.infoB5
 go_enter Tryz.func43,Tryz.ntmps43
 go_wp2_with (go_at_call 93;refine (ydt B b bs _ h).mono ?_)
 rintro e w1 ⟨rfl,h1,hb1,ho1⟩
 obtain ⟨hB,v,hbk,hown,hne⟩:=h1
 have c0:w1.cell? ⟨b,0,none⟩=some (.pointer (some ⟨b,0,none⟩)):=by rw [Lib.cell_of_heap hbk];rfl
 have c1:w1.cell? ⟨b,1,none⟩=some v:=by rw [Lib.cell_of_heap hbk];rfl
 go_wp2_with (at_builtin;refine Lib.wpList_append_own_string _ rfl _ _ 69 9 rfl B 5 i0 Tryz.underlying69 Tryz.underlying9 hi hz0 hz1 hz2 _ _ _ rfl hown s rfl ?c3 ?c4 ?c5 ?_)
 case c3=>unfold maxLen;omega
 case c4=>omega
 case c5=>have:=hb1.size;omega
 intro v' w2 hown' hgrow _
 have hlt:b < w1.heap.size:=by
  rcases Nat.lt_or_ge b w1.heap.size with h'|h'
  ·exact h'
  ·simp [Array.getElem?_eq_none h'] at hbk
 have hb2:w2.heap[b]?=some (.cells #[.pointer (some ⟨b,0,none⟩),v] 71 (0,0)):=by
  rw [hgrow.block b hlt (fun e=>hne e.symm)]
  exact hbk
 have d0:w2.cell? ⟨b,0,none⟩=some (.pointer (some ⟨b,0,none⟩)):=by rw [Lib.cell_of_heap hb2];rfl
 have d1:w2.cell? ⟨b,1,none⟩=some v:=by rw [Lib.cell_of_heap hb2];rfl
 have f1:w2.frozen? ⟨b,1,none⟩=false:=Lib.frozen_of_heap hb2 1
 obtain ⟨ao,n',cap,rfl⟩:∃ ao n' cap,v'=.slice ao n' cap:=by
  rcases hown'.2 with ⟨hv,_⟩|⟨g,cap,cur,hv,_⟩
  ·exact ⟨_,_,_,hv⟩
  ·exact ⟨_,_,_,hv⟩
 go_wp2
 go_ret2
 refine ⟨rfl, ?_, ?_, ?_⟩
 ·exact Lib.BuilderAt.put (T:=71) (e:=5) hB hb2 (bs':=bs++Lib.strCells s) (by simpa [Lib.strCells_length] using hown') (by decide)
 ·exact (hb1.grown hgrow (by have:=hb1.size;omega) (fun k hk=>(hown.lt k hk).1)).setCell (p:=⟨b,1,none⟩) hB _
 ·exact (ho1.grown hgrow (yb4 hown)).setCell ⟨b,1,none⟩ rfl _
theorem ycC {w:World} {base:Nat} {e:TypeId} {size:Nat} {v:Value} {n:Nat} {xs:List Value} (h:w.ownsRow base e size v n xs):∃ ao cap,v=.slice ao n cap:=by
 rcases h.2 with ⟨hv,h0⟩|⟨g,cap,cur,hv,_⟩
 ·exact ⟨none,0,by rw [hv,h0]⟩
 ·exact ⟨_,_,hv⟩
theorem yeH {w:World} {base:Nat} {e:TypeId} {size:Nat} {v:Value} {n:Nat} {xs:List Value} (h:w.ownsRow base e size v n xs) (hn:n≠0):∃ g cap,v=.slice (some ⟨g,0,none⟩) n cap∧base≤g∧g < w.heap.size:=by
 rcases h.2 with ⟨hv,h0⟩|⟨g,cap,cur,hv,hb,hg,_⟩
 ·exact absurd h0 hn
 ·exact ⟨g,cap,hv,hb,(ltS hg)⟩
theorem yf6 (s:ByteArray) (w:World) (hm:s.size≤9223372036854775000) :
  Calls Tryz.prog 15 #[.string s] w fun e w'=>∃ v,e=.returned (.tuple #[v,.int .i64 ((yaU s.data.toList).2.1:Nat),.int .i64 ((yaU s.data.toList).2.2:Nat)]) ∧
   w'.ownsRow w.heap.size 63 3 v (yaU s.data.toList).1.length (ybA (yaU s.data.toList).1)∧Below w.heap.size w w':=by
 have hl:s.data.toList.length=s.size:=by simp
 by_cases h:2000 < s.size
 ·refine (ymu s w h hm).mono ?_
  rintro e w' ⟨rfl,rfl⟩
  have:yaU s.data.toList=([],0,2):=by unfold yaU;rw [if_pos (by omega)]
  rw [this]
  exact ⟨_,rfl,World.ownsRow_nil _ _ _ _,Below.refl _ _⟩
 ·have:yaU s.data.toList=ya4 0 s.data.toList []:=by unfold yaU;rw [if_neg (by omega)]
  rw [this]
  exact yjX s w (by omega)
theorem Tryz.fields34:(Tryz.prog.fieldsOf 63).toList.map (fun f=>(f.name,f.type,f.offset))=[("Kind",3,0),("At",3,1),("Text",9,2)]:=by kernel_rfl
theorem Tryz.under34:Tryz.prog.underlying 63=some (.struct (Tryz.prog.fieldsOf 63)):=by kernel_rfl
theorem Tryz.stood34:Tryz.prog.stoodInHeld 63=false:=by kernel_rfl
theorem ycT {l:List Field} {a b c:String} {i j k m n o:Nat} (h:l.map (fun f=>(f.name,f.type,f.offset))=[(a,i,j),(b,k,m),(c,n,o)]) :
  ∃ f0 f1 f2:Field,l=[f0,f1,f2]∧f0.name=a∧f0.type=i∧f0.offset=j∧f1.name=b∧f1.type=k∧f1.offset=m∧f2.name=c∧f2.type=n∧f2.offset=o:=by
 obtain ⟨f0,l1,rfl,h0,h1⟩:=List.map_eq_cons_iff.1 h
 obtain ⟨f1,l2,rfl,h2,h3⟩:=List.map_eq_cons_iff.1 h1
 obtain ⟨f2,l3,rfl,h4,h5⟩:=List.map_eq_cons_iff.1 h3
 have h6:=List.map_eq_nil_iff.1 h5
 subst h6
 simp only [Prod.mk.injEq] at h0 h2 h4
 exact ⟨f0,f1,f2,rfl,h0.1,h0.2.1,h0.2.2,h2.1,h2.2.1,h2.2.2,h4.1,h4.2.1,h4.2.2⟩
def ycX (k a:Int) (t:ByteArray) (k' a':Int) (t':ByteArray):Bool:=(k == k')&&(a == a')&&(t.toList == t'.toList)
theorem ytA (k a k' a':Int) (t t':ByteArray) (w:World) :
  (binOp .eql 63 (.agg #[.int .i64 k,.int .i64 a,.string t]) (.agg #[.int .i64 k',.int .i64 a',.string t'])).run Tryz.prog w=.ok (.bool (ycX k a t k' a' t')) w:=by
 rw [run_eql_struct,run_equalIn_struct w 9999 63 _ _ Tryz.under34 Tryz.stood34]
 obtain ⟨f0,f1,f2,hf,n0,t0,o0,n1,t1,o1,n2,t2,o2⟩:=ycT Tryz.fields34
 rw [hf]
 simp [Op.eqFields,n0,t0,o0,n1,t1,o1,n2,t2,o2,go_sem]
 unfold ycX
 by_cases h1:k=k' <;> by_cases h2:a=a' <;> by_cases h3:t.toList=t'.toList <;> simp [h1,h2,h3]
def ya5 (K:Int) (l:List UInt8):Bool :=
 match yaU l with
 | ([x],_,0)=>decide (x.k=K∧x.a=0∧x.t=l)
 | _=>false
theorem ykj (K A:Int) (t:ByteArray) (w:World) (hm:t.size≤9223372036854775000) (L:List Tk) (at_ E:Nat) (hr:yaU t.data.toList=(L,at_,E)) (hE:E≠0) :
  Calls Tryz.prog 41 #[.agg #[.int .i64 K,.int .i64 A,.string t]] w fun e w'=>e=.returned (.bool false)∧Below w.heap.size w w':=by
 have hs:=fun W=>yf6 t W hm
 rw [hr] at hs
 have hEb:((E:Int) == 0)=false:=by simp;omega
 clear hr hE
 go_enter Tryz.func41,Tryz.ntmps41
 go_wp2_with (go_at_call 15;refine (hs _).mono ?_;rintro e w1 ⟨v,rfl,hown,hb1⟩)
 go_quiet (fail)
 go_wp2
 go_ret
 exact ⟨rfl,below_drewN (((Below.refl _ _).alloc (Nat.le_refl _) _).trans (hb1.mono (by simp))) _⟩
theorem yfd (K A:Int) (t:ByteArray) (w:World) (hm:t.size≤9223372036854775000) (L:List Tk) (at_:Nat) (hr:yaU t.data.toList=(L,at_,0)) (hL:L.length≠1) :
  Calls Tryz.prog 41 #[.agg #[.int .i64 K,.int .i64 A,.string t]] w fun e w'=>e=.returned (.bool false)∧Below w.heap.size w w':=by
 have hs:=fun W=>yf6 t W hm
 rw [hr] at hs
 have hEb:((L.length:Int) == 1)=false:=by simp;omega
 clear hr hL
 go_enter Tryz.func41,Tryz.ntmps41
 go_wp2_with (go_at_call 15;refine (hs _).mono ?_;rintro e w1 ⟨v,rfl,hown,hb1⟩;obtain ⟨ao,cap,hv⟩:=ycC hown;subst hv;clear hown)
 go_quiet (fail)
 go_wp2
 go_ret
 exact ⟨rfl,below_drewN (((Below.refl _ _).alloc (Nat.le_refl _) _).trans (hb1.mono (by simp))) _⟩
theorem ykk (K A:Int) (t:ByteArray) (w:World) (hm:t.size≤9223372036854775000) (x:Tk) (at_:Nat) (hr:yaU t.data.toList=([x],at_,0)) :
  Calls Tryz.prog 41 #[.agg #[.int .i64 K,.int .i64 A,.string t]] w fun e w'=>e=.returned (.bool (decide (x.k=K∧x.a=0∧x.t=t.data.toList)))∧Below w.heap.size w w':=by
 have hs:=fun W=>yf6 t W hm
 rw [hr] at hs
 clear hr
 obtain ⟨xk,xa,xt⟩:=x
 simp only [List.length_cons,List.length_nil,Nat.zero_add,ybA,List.flatMap_cons,List.flatMap_nil,List.append_nil,Tk.cells] at hs ⊢
 have hq:=ytA
 go_enter Tryz.func41,Tryz.ntmps41
 go_wp2_with (go_at_call 15;refine (hs _).mono ?_)
 rintro e w1 ⟨v,rfl,hown,hb1⟩
 obtain ⟨g,cap,hv,hg1,hg2⟩:=yeH hown (by decide)
 rw [hv] at hown
 have c0:w1.cell? ⟨g,0,none⟩=some (.int .i64 xk):=hown.cellAt 0 (by decide)
 have c1:w1.cell? ⟨g,1,none⟩=some (.int .i64 xa):=hown.cellAt 1 (by decide)
 have c2:w1.cell? ⟨g,2,none⟩=some (.string ⟨xt.toArray⟩):=hown.cellAt 2 (by decide)
 have d0:w1.cell? ⟨w.heap.size,0,none⟩=some (.int .i64 K):=(hb1.cell (by simp)).trans (by simp)
 have d2:w1.cell? ⟨w.heap.size,2,none⟩=some (.string t):=(hb1.cell (by simp)).trans (by simp)
 rw [hv]
 clear hv hown
 go_wp2
 go_quiet (fail)
 go_wp2
 go_ret
 refine ⟨yaw ?_,below_drewN (((Below.refl _ _).alloc (Nat.le_refl _) _).trans (hb1.mono (by simp))) _⟩
 unfold ycX
 rw [show (⟨xt.toArray⟩:ByteArray).toList=xt by rw [Lib.toList_data],Lib.toList_data,Bool.eq_iff_iff]
 simp [and_assoc]
theorem yki (K A:Int) (t:ByteArray) (w:World) (hm:t.size≤9223372036854775000) :
  Calls Tryz.prog 41 #[.agg #[.int .i64 K,.int .i64 A,.string t]] w fun e w'=>e=.returned (.bool (ya5 K t.data.toList))∧Below w.heap.size w w':=by
 obtain ⟨L,a,E,hr⟩:∃ L a E,yaU t.data.toList=(L,a,E):=⟨_,_,_,rfl⟩
 by_cases hE:E=0
 ·subst hE
  match L,hr with
  | [x],hr =>
   rw [show ya5 K t.data.toList=decide (x.k=K∧x.a=0∧x.t=t.data.toList) by unfold ya5;rw [hr];rfl]
   exact ykk K A t w hm x a hr
  | [],hr =>
   rw [show ya5 K t.data.toList=false by unfold ya5;rw [hr]]
   exact yfd K A t w hm _ a hr (by simp)
  | x::y::r,hr =>
   rw [show ya5 K t.data.toList=false by unfold ya5;rw [hr]]
   exact yfd K A t w hm _ a hr (by simp)
 ·rw [show ya5 K t.data.toList=false by unfold ya5;rw [hr];split <;> simp_all]
  exact ykj K A t w hm L a E hr hE
def yb1:List Tk→List UInt8
 | []=>[]
 | [x]=>x.t
 | x::y::r=>x.t++32::yb1 (y::r)
theorem yfs (L:List Tk) (x:Tk) (h:L≠[]):yb1 (L++[x])=yb1 L++32::x.t:=by
 induction L with
 | nil=>exact absurd rfl h
 | cons y r ih =>
  cases r with
  | nil=>rfl
  | cons z r =>
   have:=ih (by simp)
   simp only [List.cons_append] at this ⊢
   rw [yb1,this,yb1];simp
def yeB (L:List Tk):List UInt8×Nat :=
 if L.all (fun x=>ya5 x.k x.t)=true then (if 2000 < (yb1 L).length then ([],2) else (yb1 L,0)) else ([],1)
theorem yam (l:List UInt8):(⟨l.toArray⟩:ByteArray).size=l.length:=by show l.toArray.size=_;simp
theorem ycL (a b:List UInt8):Lib.byteCells (a++b)=Lib.byteCells a++Lib.byteCells b:=by simp [Lib.byteCells]
def ykh (w:World) (b off n:Nat) (L:List Tk):Prop :=
 L.length=n∧∀ i x,L[i]?=some x→w.cell? ⟨b,off+i*3,none⟩=some (.int .i64 x.k)∧w.cell? ⟨b,off+i*3+1,none⟩=some (.int .i64 x.a)∧w.cell? ⟨b,off+i*3+2,none⟩=some (.string ⟨x.t.toArray⟩)
theorem ycE {T e:TypeId} {B b:Nat} {bs:List Value} {w w':World} (h:Lib.IsBuilder T e B b bs w) (hb:Below w.heap.size w w'):Lib.IsBuilder T e B b bs w':=by
 have go:∀ p,Lib.BuilderAt T e B b p bs w→Lib.BuilderAt T e B b p bs w':=by
  rintro p ⟨hB,v,hbk,hown,hne⟩
  exact ⟨hB,v,(hb.block b (ltS hbk)).trans hbk,ycB hown hb,hne⟩
 rcases h with h|h
 ·exact .inl (go _ h)
 ·exact .inr (go _ h)
theorem yfJ (L:List Tk) (k:Nat) (x:Tk) (h:L[k]?=some x):L.take (k+1)=L.take k++[x]:=by
 rw [List.take_succ_eq_append_getElem (List.getElem?_eq_some_iff.1 h).1]
 simp [(List.getElem?_eq_some_iff.1 h).2]
theorem yfC (f:Nat):∀ (a:Nat) (l:List UInt8) (acc:List Tk),(∀ x ∈ acc,x.t.length≤22)→∀ x ∈ (ybC f a l acc).1,x.t.length≤22:=by
 induction f with
 | zero=>intro a l acc h;exact h
 | succ f ih =>
  intro a l acc h
  cases l with
  | nil=>exact h
  | cons c r =>
   rw [ybC]
   split
   ·exact ih _ _ _ h
   ·split
    ·rename_i hw
     apply ih
     intro x hx
     rcases List.mem_append.1 hx with hx|hx
     ·exact h x hx
     ·simp at hx
      subst hx
      have h4:=yc1 (c::r)
      have hz:=ybZ hw
      generalize ya2 (c::r)=p at *
      obtain ⟨K,N⟩:=p
      simp only at *
      unfold yay at hw
      simp only [hz,if_false] at hw
      have hN:(List.take N (c::r)).length≤N:=List.length_take_le _ _
      generalize List.take N (c::r)=T at *
      split at hw
      ·cases hw
      ·rename_i hn
       show T.length≤22
       omega
    ·intro x hx;cases hx
theorem yen {K:Int} {l:List UInt8} (h:ya5 K l=true):l.length≤22:=by
 unfold ya5 at h
 split at h
 ·rename_i x _ hs
  simp at h
  have hx:∀ y ∈ (yaU l).1,y.t.length≤22:=by
   unfold yaU
   split
   ·intro y hy;cases hy
   ·exact yfC _ _ _ _ (by intro y hy;cases hy)
  have:=hx x (by rw [hs];simp)
  rw [h.2.2] at this
  exact this
 ·cases h
theorem yln (L:List Tk) (k:Nat) (hk:k≤L.length) (h:(L.take k).all (fun x=>ya5 x.k x.t)=true):(yb1 (L.take k)).length≤23*k:=by
 induction k with
 | zero=>simp [yb1]
 | succ k ih =>
  have hx:L[k]?=some L[k]:=List.getElem?_eq_getElem (by omega)
  rw [yfJ L k _ hx] at h ⊢
  rw [List.all_append,Bool.and_eq_true] at h
  have h1:=ih (by omega) h.1
  have h2:=yen (show ya5 L[k].k L[k].t=true by simpa using h.2)
  by_cases e:L.take k=[]
  ·rw [e];simp [yb1];omega
  ·rw [yfs _ _ e];simp;omega
theorem ygC (b off n cap:Nat) (L:List Tk) (w:World) (hn:0 < n) (hr:n*32≤140737488355328) (hb:b < w.heap.size) (hL:ykh w b off n L) (ht:∀ x ∈ L,x.t.length≤9223372036854775000) :
  Calls Tryz.prog 16 #[.slice (some ⟨b,off,none⟩) n cap] w fun e w'=>e=.returned (.tuple #[.string ⟨(yeB L).1.toArray⟩,.int .i64 ((yeB L).2:Nat)])∧Below w.heap.size w w':=by
 obtain ⟨hlen,hcells⟩:=hL
 go_enter Tryz.func16,Tryz.ntmps16
 go_wp2
 go_loopw [9] (fun i wr=>∃ k:Nat,k≤n∧i=.int .i64 k∧Lib.IsBuilder 71 5 w.heap.size w.heap.size (Lib.byteCells (yb1 (L.take k))) wr∧Below w.heap.size w wr ∧
   Hid ((L.take k).all (fun x=>ya5 x.k x.t)=true)) (fun i _=>n - (intOf i).toNat)
 case atStart =>
  exact ⟨0,Nat.zero_le _,rfl,Lib.fresh_isBuilder 71 5 w,(Below.refl _ _).alloc (Nat.le_refl _) _,by simp [Hid]⟩
 case round =>
  obtain ⟨k,hk,rfl,hB,hnx,HA⟩:=hrel
  by_cases hlt:k < n
  ·obtain ⟨x,hx⟩:∃ x,L[k]?=some x:=⟨L[k],List.getElem?_eq_getElem (by omega)⟩
   obtain ⟨e0,e1,e2⟩:=hcells k x hx
   have a0:=(hnx.cell (p:=⟨b,off+k*3,none⟩) hb).trans e0
   have a1:=(hnx.cell (p:=⟨b,off+k*3+1,none⟩) hb).trans e1
   have a2:=(hnx.cell (p:=⟨b,off+k*3+2,none⟩) hb).trans e2
   have hal:=fun W=>yki x.k x.a ⟨x.t.toArray⟩ W (by rw [yam];exact ht x (List.mem_of_getElem? hx))
   cases hx1:ya5 x.k x.t
   ·simp only [hx1] at hal
    clear e0 e1 e2 hcells
    go_wp2_with (go_at_call 41;refine (hal _).mono ?_;rintro e w2 ⟨rfl,hb2⟩)
    go_ret2
    have hJ:yeB L=([],1):=by
     unfold yeB
     rw [if_neg]
     intro h
     have:=List.all_eq_true.1 h x (List.mem_of_getElem? hx)
     rw [hx1] at this;cases this
    rw [hJ]
    exact ⟨rfl,(hnx.alloc hnx.size _).trans (hb2.mono (by have:=hnx.size;simp;omega))⟩
   ·simp only [hx1] at hal
    clear e0 e1 e2 hcells
    have hsz:=hnx.size
    have hsz1:w.heap.size < wr.heap.size:=by rcases hB with h|h <;> exact h.lt
    have HX:Hid (ya5 x.k x.t=true):=hx1
    have HL:Hid (L[k]?=some x):=hx
    have HB:=ycE hB ((Below.refl wr.heap.size wr).alloc (Nat.le_refl _) (.cells #[.int .i64 x.k,.int .i64 x.a,.string ⟨x.t.toArray⟩] 63))
    have hjl:=yln L k (by omega) HA.out
    have hxl:=yen hx1
    have hk1:=yfJ L k x hx
    clear hx hx1 hB
    have HK:Hid (L.take (k+1)=L.take k++[x]):=hk1
    have HA1:Hid ((L.take (k+1)).all (fun x=>ya5 x.k x.t)=true):=by
     show (L.take (k+1)).all (fun x=>ya5 x.k x.t)=true
     rw [hk1,List.all_append,HA.out];simpa using HX.out
    clear hk1 HA
    have hxs:=yam x.t
    have hjc:=Lib.byteCells_length (yb1 (L.take k))
    by_cases hk0:0 < k
    ·go_wp2_with (go_at_call 41;refine (hal _).mono ?_;rintro e w2 ⟨rfl,hb2⟩)
     have hbl:w2.heap[wr.heap.size]?=some (.cells #[.int .i64 x.k,.int .i64 x.a,.string ⟨x.t.toArray⟩] 63 (0,0)):=(hb2.block _ (by simp)).trans (heap_alloc_new _ _)
     have hs2:wr.heap.size+1≤w2.heap.size:=by have:=hb2.size;simpa using this
     refine (ygj w.heap.size w.heap.size _ 32 _ (ycE HB hb2) (by rw [hjc];omega) (by omega)).mono ?_
     rintro e w3 ⟨rfl,h3,hb3,ho3⟩
     have hbl3:=ho3 _ _ hbl (by simp;omega) (by intro c fz;simp)
     have c3:w3.cell? ⟨wr.heap.size,2,none⟩=some (.string ⟨x.t.toArray⟩):=by rw [Lib.cell_of_heap hbl3];rfl
     have hs3:=hb3.size
     go_wp2_with fail
     refine (yc2 w.heap.size w.heap.size _ ⟨x.t.toArray⟩ _ (.inr h3) (by simp only [List.length_append,List.length_cons,List.length_nil];rw [hjc,hxs];omega) (by omega)).mono ?_
     rintro e w4 ⟨rfl,h4,hb4,ho4⟩
     have R:Lib.IsBuilder 71 5 w.heap.size w.heap.size (Lib.byteCells (yb1 (L.take (k+1)))) w4:=by
      have e:yb1 (L.take (k+1))=yb1 (L.take k)++([32]++x.t):=by
       rw [HK.out,yfs _ _ (by intro h;have:=congrArg List.length h;rw [List.length_take,Nat.min_eq_left (by omega)] at this;simp at this;omega)];rfl
      rw [e,ycL,ycL,← List.append_assoc]
      exact .inr h4
     have hN4:Below w.heap.size w w4:=(((hnx.alloc hsz _).trans (hb2.mono (by simp;omega))).trans hb3).trans hb4
     clear h3 h4 hb2 hb3 hb4 ho3 ho4 HB hal hbl hbl3 c3 a0 a1 a2
     go_wp2
     go_roundw
     case rel=>exact ⟨k+1,by omega,by go_num,R,hN4,HA1⟩
     case measure=>simp [intOf];omega
    ·go_wp2_with (go_at_call 41;refine (hal _).mono ?_;rintro e w2 ⟨rfl,hb2⟩;have c2:w2.cell? ⟨wr.heap.size,2,none⟩=some (.string ⟨x.t.toArray⟩):=(hb2.cell (by simp)).trans (by simp))
     have hs2:wr.heap.size+1≤w2.heap.size:=by have:=hb2.size;simpa using this
     refine (yc2 w.heap.size w.heap.size _ ⟨x.t.toArray⟩ _ (ycE HB hb2) (by rw [hjc,hxs];omega) (by omega)).mono ?_
     rintro e w4 ⟨rfl,h4,hb4,ho4⟩
     have R:Lib.IsBuilder 71 5 w.heap.size w.heap.size (Lib.byteCells (yb1 (L.take (k+1)))) w4:=by
      have e:yb1 (L.take (k+1))=x.t:=by
       rw [HK.out,show k=0 by omega];rfl
      have e0:yb1 (L.take k)=[]:=by rw [show k=0 by omega];rfl
      rw [e0] at h4
      rw [e]
      exact .inr h4
     have hN4:Below w.heap.size w w4:=((hnx.alloc hsz _).trans (hb2.mono (by simp;omega))).trans hb4
     clear h4 hb2 hb4 ho4 HB hal c2 a0 a1 a2
     go_wp2
     go_roundw
     case rel=>exact ⟨k+1,by omega,by go_num,R,hN4,HA1⟩
     case measure=>simp [intOf];omega
  ·have hkn:k=n:=by omega
   have HJ:Hid (L.take k=L):=List.take_of_length_le (by omega)
   have HJ2:Hid (yeB L=if 2000 < (yb1 L).length then ([],2) else (yb1 L,0)):=by
    show yeB L=_
    unfold yeB
    rw [if_pos]
    have:=HA.out
    rw [HJ.out] at this;exact this
   have hB':=hB
   rw [HJ.out] at hB'
   clear hB HA hcells
   have hjl:(yb1 L).length=(yb1 L).length:=rfl
   by_cases h2:2000 < (yb1 L).length
   ·have hlen2:=Tryz.Builder_Len w.heap.size w.heap.size _ wr hB'
    rw [Lib.byteCells_length] at hlen2
    clear hkn hjl
    go_wp2_with (go_at_call 44;refine hlen2.mono ?_;rintro e w' ⟨rfl,hw'⟩;obtain rfl:=hw'.symm;clear hw')
    go_ret2
    rw [HJ2.out,if_pos h2]
    exact ⟨rfl,hnx⟩
   ·have hlen2:=Tryz.Builder_Len w.heap.size w.heap.size _ wr hB'
    rw [Lib.byteCells_length] at hlen2
    clear hkn hjl
    go_wp2_with (first|(go_at_call 44;refine hlen2.mono ?_;rintro e w' ⟨rfl,hw'⟩;obtain rfl:=hw'.symm;clear hw')|(go_at_call 45;refine (Tryz.Builder_String_any w.heap.size w.heap.size (yb1 L) _ hB' (by exact hnx.size)).mono ?_;rintro e w5 ⟨rfl,hb5⟩))
    go_ret2
    rw [HJ2.out,if_neg h2]
    exact ⟨rfl,hnx.trans hb5⟩
def yeJ (s:List UInt8):Nat→List Tk→Prop
 | _,[]=>True
 | p,x::r=>∃ A:Nat,x.a=(A:Int)∧p≤A∧1≤x.t.length∧A+x.t.length≤s.length∧x.t=(s.drop A).take x.t.length∧yeJ s (A+x.t.length) r
theorem ygL (s:List UInt8) (p q:Nat) (h:q≤p) (L:List Tk) (hL:yeJ s p L):yeJ s q L:=by
 cases L with
 | nil=>trivial
 | cons x r=>obtain ⟨A,h1,h2,h3⟩:=hL;exact ⟨A,h1,by omega,h3⟩
theorem ydO (s:List UInt8) (f:Nat):∀ (a:Nat) (l:List UInt8) (acc:List Tk),a≤s.length→l=s.drop a→(ybC f a l acc).2.2=0→∃ new,(ybC f a l acc).1=acc++new∧yeJ s a new:=by
 induction f with
 | zero=>intro a l acc _ _ _;exact ⟨[],by simp [ybC],trivial⟩
 | succ f ih =>
  intro a l acc ha hl h0
  cases l with
  | nil=>exact ⟨[],by simp [ybC],trivial⟩
  | cons c r =>
   have hlen:(c::r).length=s.length - a:=by rw [hl];simp
   simp only [List.length_cons] at hlen
   have hr:r=s.drop (a+1):=by rw [← List.drop_drop,← hl];rfl
   rw [ybC] at h0 ⊢
   by_cases hb:isB c=true
   ·rw [if_pos hb] at h0 ⊢
    obtain ⟨new,h1,h2⟩:=ih (a+1) r acc (by omega) hr h0
    exact ⟨new,h1,ygL s _ _ (by omega) new h2⟩
   ·rw [if_neg hb] at h0 ⊢
    by_cases hw:yay (ya2 (c::r)).1 ((c::r).take (ya2 (c::r)).2)=0
    ·rw [if_pos hw] at h0 ⊢
     have hpos:=ycK c r (ybZ hw)
     have hle:=ygd (c::r)
     generalize ya2 (c::r)=p at *
     obtain ⟨K,N⟩:=p
     simp only [List.length_cons] at *
     obtain ⟨new,h1,h2⟩:=ih (a+N) _ _ (by omega) (by rw [hl,List.drop_drop]) h0
     have hT:((c::r).take N).length=N:=by rw [List.length_take,List.length_cons];omega
     refine ⟨⟨(K:Nat),(a:Nat),(c::r).take N⟩::new,by rw [h1];simp,a,rfl,Nat.le_refl _, ?_, ?_, ?_, ?_⟩
     ·show 1≤((c::r).take N).length;omega
     ·show a+((c::r).take N).length≤s.length;omega
     ·show (c::r).take N=(s.drop a).take ((c::r).take N).length;rw [hT,← hl]
     ·show yeJ s (a+((c::r).take N).length) new;rw [hT];exact h2
    ·rw [if_neg hw] at h0
     exact absurd h0 hw
theorem yaa {p:Prop} (h:p):Hid p:=h
theorem yoS (c d:UInt8):((c.toNat:Int) == (d.toNat:Int))=decide (c=d):=by
 rw [Bool.eq_iff_iff]
 simp only [beq_iff_eq,decide_eq_true_eq]
 constructor
 ·intro h;apply UInt8.toNat_inj.1;omega
 ·intro h;rw [h]
theorem ydj (c:UInt8) (r:List UInt8):ycO (c::r)=(decide (c=124)&&decide (r.head?=some 124)):=by
 unfold ycO Lib.hasPrefix
 cases r with
 | nil=>simp [List.isPrefixOf]
 | cons d r=>simp [List.isPrefixOf];rw [Bool.eq_iff_iff];simp [eq_comm (a:=(124:UInt8))]
theorem ygz {c:UInt8} (h:isB c=true):((c.toNat:Int) == 32)=true∨(((c.toNat:Int) == 32)=false∧((c.toNat:Int) == 9)=true)∨(((c.toNat:Int) == 32)=false∧((c.toNat:Int) == 9)=false∧((c.toNat:Int) == 10)=true):=by
 unfold isB at h
 cases h1:((c.toNat:Int) == 32) <;> cases h2:((c.toNat:Int) == 9) <;> cases h3:((c.toNat:Int) == 10) <;> simp_all
theorem yqn {c:UInt8} (h:isB c=false):((c.toNat:Int) == 32)=false∧((c.toNat:Int) == 9)=false∧((c.toNat:Int) == 10)=false:=by
 unfold isB at h
 cases h1:((c.toNat:Int) == 32) <;> cases h2:((c.toNat:Int) == 9) <;> cases h3:((c.toNat:Int) == 10) <;> simp_all
def ybt (K:Int) (l:List UInt8):Bool:=decide (l≠[]∧l.length≤2000∧((ya2 l).1:Int)=K∧(ya2 l).2=l.length∧yay (ya2 l).1 l=0)
theorem yj7 (c:UInt8) (r:List UInt8) (h:isB c=true):ya2 (c::r)=(0,0):=by
 have hc:c=32∨c=9∨c=10:=by
  rcases ygz h with h|⟨_,h⟩|⟨_,_,h⟩
  ·left;apply UInt8.toNat_inj.1;have:=eq_of_beq h;simp;omega
  ·right;left;apply UInt8.toNat_inj.1;have:=eq_of_beq h;simp;omega
  ·right;right;apply UInt8.toNat_inj.1;have:=eq_of_beq h;simp;omega
 rcases hc with rfl|rfl|rfl
 all_goals
  rw [ya2,if_neg (by decide),if_neg (by decide),if_neg (by decide),if_neg (by rw [ydj];simp),if_neg (by decide)]
theorem ycV (K:Int) (l:List UInt8):ya5 K l=ybt K l:=by
 rw [Bool.eq_iff_iff]
 constructor
 ·intro h
  have hlen:=yen h
  unfold ya5 at h
  split at h
  ·rename_i x p hs
   simp only [decide_eq_true_eq] at h
   obtain ⟨hk,ha,ht⟩:=h
   cases l with
   | nil=>simp [yaU,ya4,ybC] at hs
   | cons c r =>
    have hs':ya4 0 (c::r) []=([x],p,0):=by
     have:yaU (c::r)=ya4 0 (c::r) []:=by unfold yaU;rw [if_neg (by omega)]
     rw [← this];exact hs
    cases hB:isB c
    ·by_cases hw:yay (ya2 (c::r)).1 ((c::r).take (ya2 (c::r)).2)=0
     ·have h1:=yeP 0 c r [] hB hw
      have hle:=ygd (c::r)
      rw [hs'] at h1
      obtain ⟨new,h2,_⟩:=ydO (c::r) _ (0+(ya2 (c::r)).2) _ ([]++[⟨((ya2 (c::r)).1:Nat),((0:Nat):Int),(c::r).take (ya2 (c::r)).2⟩]) (by omega) (by rw [Nat.zero_add]) (by unfold ya4 at h1;rw [← h1])
      have h3:([x]:List Tk)=[⟨((ya2 (c::r)).1:Nat),((0:Nat):Int),(c::r).take (ya2 (c::r)).2⟩]++new:=by
       have:=congrArg Prod.fst h1
       unfold ya4 at this
       rw [h2] at this
       simpa using this
      simp only [List.cons_append,List.nil_append,List.cons.injEq] at h3
      obtain ⟨rfl,_⟩:=h3
      simp only at hk ht
      have hN:(ya2 (c::r)).2=(c::r).length:=by
       have:=congrArg List.length ht
       rw [List.length_take] at this;omega
      rw [ht] at hw
      simp only [ybt,decide_eq_true_eq]
      exact ⟨by simp,by omega,hk,hN,hw⟩
     ·have h1:=ygT 0 c r [] hB hw
      rw [hs'] at h1
      simp at h1
    ·have h1:=ydn 0 c r [] hB
     rw [hs'] at h1
     obtain ⟨new,h2,h3⟩:=ydO (c::r) (r.length+1) 1 r [] (by simp) rfl (by unfold ya4 at h1;rw [← h1])
     have h4:([x]:List Tk)=new:=by
      have:=congrArg Prod.fst h1
      unfold ya4 at this
      rw [h2] at this
      simpa using this
     subst h4
     obtain ⟨A,e1,e2,_⟩:=h3
     rw [ha] at e1
     omega
  ·cases h
 ·intro h
  simp only [ybt,decide_eq_true_eq] at h
  obtain ⟨h0,hlen,hk,hN,hw⟩:=h
  cases l with
  | nil=>exact absurd rfl h0
  | cons c r =>
   have hB:isB c=false:=by
    cases hB:isB c
    ·rfl
    ·rw [yj7 c r hB] at hw;simp [yay] at hw
   have h1:=yeP 0 c r [] hB (by rw [hN,List.take_of_length_le (Nat.le_refl _)];exact hw)
   rw [hN,List.take_of_length_le (Nat.le_refl _),List.drop_eq_nil_of_le (Nat.le_refl _),yms] at h1
   unfold ya5
   rw [show yaU (c::r)=ya4 0 (c::r) [] by unfold yaU;rw [if_neg (by omega)],h1]
   simp [hk]
theorem yaz (a b:List UInt8):((⟨a.toArray⟩:ByteArray)++⟨b.toArray⟩)=⟨(a++b).toArray⟩:=by
 apply ByteArray.ext
 simp
def yda (S:List UInt8):Bool:=decide (S.length≤20)&&S.all isQ
theorem ymj (S:List UInt8) (h:S.all isQ=true):ycv isQ (S++[39])=S.length:=by
 induction S with
 | nil=>rfl
 | cons c r ih =>
  rw [List.all_cons,Bool.and_eq_true] at h
  rw [List.cons_append,ybS,if_pos h.1,ih h.2];rfl
theorem ygP (S:List UInt8) (h:S.all isQ=false):ycv isQ (S++[39]) < S.length:=by
 induction S with
 | nil=>cases h
 | cons c r ih =>
  rw [List.cons_append,ybS]
  by_cases hc:isQ c=true
  ·rw [if_pos hc]
   rw [List.all_cons,hc,Bool.true_and] at h
   have:=ih h
   simp only [List.length_cons];omega
  ·rw [if_neg hc];simp
theorem yfA (S:List UInt8):ya5 3 (39::(S++[39]))=yda S:=by
 rw [ycV,Bool.eq_iff_iff]
 have l39:isL 39=false:=by decide
 have d39:isD 39=false:=by decide
 have hlen:(39::(S++[39])).length=S.length+2:=by simp
 simp only [ybt,yda,decide_eq_true_eq,Bool.and_eq_true]
 cases hA:S.all isQ
 ·have hlt:=ygP S hA
  constructor
  ·rintro ⟨_,_,h3,h4,_⟩
   rw [ya2,if_neg (by simp [l39]),if_neg (by simp [d39]),if_pos rfl] at h3 h4
   split at h3
   ·rename_i hz
    rw [if_pos hz] at h4
    simp only at h4
    omega
   ·simp at h3
  ·rintro ⟨_,h⟩;cases h
 ·have hrun:=ymj S hA
  have hz:(S++[39])[ycv isQ (S++[39])]?=some 39:=by rw [hrun,List.getElem?_append_right (by omega)];simp
  have ht:ya2 (39::(S++[39]))=(3,S.length+2):=by
   rw [ya2,if_neg (by simp [l39]),if_neg (by simp [d39]),if_pos rfl,if_pos hz,hrun]
  rw [ht]
  simp only [hlen]
  constructor
  ·rintro ⟨_,_,_,_,hw⟩
   refine ⟨?_,trivial⟩
   rcases Nat.lt_or_ge 20 S.length with h|h
   ·have:yay 3 (39::(S++[39]))=2:=by
     unfold yay
     rw [hlen,if_neg (by omega),if_pos (by omega)]
    rw [this] at hw;cases hw
   ·exact h
  ·rintro ⟨h,_⟩
   refine ⟨by simp,by omega,rfl,trivial, ?_⟩
   unfold yay
   simp only [hlen]
   rw [if_neg (by omega),if_neg (by omega),if_neg (by omega)]
theorem yma (S:List UInt8) (a:Int):(yeB [⟨3,a,39::(S++[39])⟩]).2=if yda S=true then 0 else 1:=by
 unfold yeB
 have e:([⟨3,a,39::(S++[39])⟩]:List Tk).all (fun x=>ya5 x.k x.t)=yda S:=by simp [yfA]
 rw [e]
 by_cases h:yda S=true
 ·rw [if_pos h,if_pos h]
  have:¬ 2000 < (yb1 [⟨3,a,39::(S++[39])⟩]).length:=by
   simp only [yda,Bool.and_eq_true,decide_eq_true_eq] at h
   simp [yb1];omega
  rw [if_neg this]
 ·rw [if_neg h,if_neg h]
def ye7 (n:Int):Bool:=decide ((-999999999:Int)≤n)&&decide (n≤999999999)
theorem yli (n:Int) (w:World) :
  Calls Tryz.prog 158 #[.int .i64 n] w fun e w'=>e=.returned (.bool (ye7 n))∧w'=w:=by
 go_enter Tryz.func158,Tryz.ntmps158
 go_wp2
 all_goals go_ret
 all_goals exact ⟨yaw (by simp [ye7, *] <;> omega),rfl⟩
theorem ysI (s:ByteArray):((⟨#[39]⟩:ByteArray)++s++⟨#[39]⟩)=⟨(39::(s.data.toList++[39])).toArray⟩:=by
 obtain ⟨⟨l⟩⟩:=s
 have:=yaz ([39]++l) [39]
 rw [← yaz] at this
 simpa using this
theorem yor (s:ByteArray) (w:World):ykh (w.alloc (.cells #[.int .i64 3,.int .i64 0,.string ((⟨#[39]⟩:ByteArray)++s++⟨#[39]⟩)] 63)) w.heap.size 0 1 [⟨3,0,39::(s.data.toList++[39])⟩]:=by
 refine ⟨rfl, ?_⟩
 intro i x hx
 match i,hx with
 | 0,hx =>
  simp only [List.getElem?_cons_zero,Option.some.injEq] at hx
  subst hx
  rw [ysI]
  refine ⟨by simp,by simp,by simp⟩
theorem yl9 (s:ByteArray) (w:World) (hs:s.size≤140737488355328) :
  Calls Tryz.prog 16 #[.slice (some ⟨w.heap.size,0,none⟩) 1 1] (w.alloc (.cells #[.int .i64 3,.int .i64 0,.string ((⟨#[39]⟩:ByteArray)++s++⟨#[39]⟩)] 63)) fun e w' =>
   (∃ S:List UInt8,e=.returned (.tuple #[.string ⟨S.toArray⟩,.int .i64 ((if yda s.data.toList=true then 0 else 1:Nat):Int)]))∧Below w.heap.size w w':=by
 have hsz:s.data.toList.length=s.size:=by simp
 refine (ygC w.heap.size 0 1 1 [⟨3,0,39::(s.data.toList++[39])⟩] _ (by decide) (by decide) (by simp) (yor s w) (by intro x hx;simp at hx;subst hx;simp;omega)).mono ?_
 rintro e w' ⟨rfl,hb⟩
 rw [yma]
 exact ⟨⟨_,rfl⟩,((Below.refl _ _).alloc (Nat.le_refl _) _).trans (hb.mono (by simp))⟩
theorem yjx (s:ByteArray) (w:World) (hs:s.size≤140737488355328) :
  Calls Tryz.prog 159 #[.string s] w fun e w'=>e=.returned (.bool (yda s.data.toList))∧Below w.heap.size w w':=by
 have hj:=yl9 s w hs
 cases hq:yda s.data.toList
 all_goals
  rw [hq] at hj
  clear hq
  go_enter Tryz.func159,Tryz.ntmps159
  go_wp2_with (go_at_call 16;refine hj.mono ?_;rintro e w' ⟨⟨S,rfl⟩,hb⟩)
  go_ret
  exact ⟨rfl,hb⟩
def ybT (K N:Int) (S:List UInt8):Nat :=
 if K=0 then (if N=0∧S=[] then 0 else 3)
 else if K=1 then (if ye7 N=true∧S=[] then 0 else 3)
 else if K=2 then (if N=0∧yda S=true then 0 else 3)
 else if K=3 then (if (N=0∨N=1)∧S=[] then 0 else 3)
 else 7
theorem ydv (s:ByteArray):s.toList.isEmpty=decide (s.data.toList=[]):=by
 rw [Lib.toList_data];cases s.data.toList <;> simp
theorem ypx (N:Int) (s:ByteArray) (w:World) :
  Calls Tryz.prog 124 #[.agg #[.int .i64 0,.int .i64 N,.string s]] w fun e w'=>e=.returned (.int .i64 ((if (N == 0)=true∧s.toList.isEmpty=true then 0 else 3:Nat):Int))∧Below w.heap.size w w':=by
 cases h1:(N == 0) <;> cases h2:s.toList.isEmpty
 all_goals
  go_enter Tryz.func124,Tryz.ntmps124
  go_wp2
  go_ret
  exact ⟨rfl,(Below.refl _ _).alloc (Nat.le_refl _) _⟩
theorem ypy (N:Int) (s:ByteArray) (w:World) :
  Calls Tryz.prog 124 #[.agg #[.int .i64 1,.int .i64 N,.string s]] w fun e w'=>e=.returned (.int .i64 ((if ye7 N=true∧s.toList.isEmpty=true then 0 else 3:Nat):Int))∧Below w.heap.size w w':=by
 have hi:=yli N
 cases h1:ye7 N <;> cases h2:s.toList.isEmpty
 all_goals
  rw [h1] at hi
  clear h1
  go_enter Tryz.func124,Tryz.ntmps124
  go_wp2_with (go_at_call 158;refine (hi _).mono ?_;rintro e w' ⟨rfl,hw'⟩;obtain rfl:=hw'.symm;clear hw')
  go_ret
  exact ⟨rfl,(Below.refl _ _).alloc (Nat.le_refl _) _⟩
theorem ypz (N:Int) (s:ByteArray) (w:World) (hs:s.size≤140737488355328) :
  Calls Tryz.prog 124 #[.agg #[.int .i64 2,.int .i64 N,.string s]] w fun e w'=>e=.returned (.int .i64 ((if (N == 0)=true∧yda s.data.toList=true then 0 else 3:Nat):Int))∧Below w.heap.size w w':=by
 have hi:=fun W=>yjx s W hs
 cases h1:(N == 0) <;> cases h2:yda s.data.toList
 all_goals
  rw [h2] at hi
  clear h2
  go_enter Tryz.func124,Tryz.ntmps124
  go_wp2_with (go_at_call 159;refine (hi _).mono ?_;rintro e w' ⟨rfl,hb⟩)
  go_ret
  first
   | exact ⟨rfl,(Below.refl _ _).alloc (Nat.le_refl _) _⟩
   | exact ⟨rfl,((Below.refl _ _).alloc (Nat.le_refl _) _).trans (hb.mono (by simp))⟩
theorem ypA (N:Int) (s:ByteArray) (w:World) :
  Calls Tryz.prog 124 #[.agg #[.int .i64 3,.int .i64 N,.string s]] w fun e w'=>e=.returned (.int .i64 ((if ((N == 0)=true∨(N == 1)=true)∧s.toList.isEmpty=true then 0 else 3:Nat):Int))∧Below w.heap.size w w':=by
 cases h1:(N == 0) <;> cases h3:(N == 1) <;> cases h2:s.toList.isEmpty
 all_goals
  go_enter Tryz.func124,Tryz.ntmps124
  go_wp2
  go_ret
  exact ⟨rfl,(Below.refl _ _).alloc (Nat.le_refl _) _⟩
theorem yhi (K N:Int) (s:ByteArray) (w:World) (h0:(K == 0)=false) (h1:(K == 1)=false) (h2:(K == 2)=false) (h3:(K == 3)=false) :
  Calls Tryz.prog 124 #[.agg #[.int .i64 K,.int .i64 N,.string s]] w fun e w'=>e=.returned (.int .i64 7)∧Below w.heap.size w w':=by
 go_enter Tryz.func124,Tryz.ntmps124
 go_wp2
 go_ret
 exact ⟨rfl,(Below.refl _ _).alloc (Nat.le_refl _) _⟩
theorem ykt (K N:Int) (s:ByteArray) (w:World) (hs:s.size≤140737488355328) :
  Calls Tryz.prog 124 #[.agg #[.int .i64 K,.int .i64 N,.string s]] w fun e w'=>e=.returned (.int .i64 (ybT K N s.data.toList:Nat))∧Below w.heap.size w w':=by
 by_cases h0:K=0
 ·subst h0
  have:=ypx N s w
  simp only [ydv,beq_iff_eq,decide_eq_true_eq] at this
  simpa only [ybT,if_true] using this
 by_cases h1:K=1
 ·subst h1
  have:=ypy N s w
  simp only [ydv,decide_eq_true_eq] at this
  simpa [ybT] using this
 by_cases h2:K=2
 ·subst h2
  have:=ypz N s w hs
  simp only [beq_iff_eq] at this
  simpa [ybT] using this
 by_cases h3:K=3
 ·subst h3
  have:=ypA N s w
  simp only [ydv,beq_iff_eq,decide_eq_true_eq] at this
  simpa [ybT] using this
 rw [show ybT K N s.data.toList=7 by simp [ybT,h0,h1,h2,h3]]
 exact yhi K N s w (by simp [h0]) (by simp [h1]) (by simp [h2]) (by simp [h3])
end Go.Proofs.YtkpeklealgicpabGreatDoor
