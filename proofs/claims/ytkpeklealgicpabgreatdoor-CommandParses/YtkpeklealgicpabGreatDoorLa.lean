/-
  The small predicates of package token and the walk over bytes 'span', at every input: each answers its plain function and leaves the world as it was.
  'span' of package token, at every text, place within it and each of the four function values that the program hands it: it answers the place where the bytes end of which it goes on, and leaves the world as it was.
  The contracts of the library functions that this program calls, stated at its own numbers.
  'next' of package token.
  'longest' and 'fault' of package token.
  The plain function that scanning comes to, over lists of bytes, and its small laws; what 'fault' answers, in its words.
  'Scan' of package token.
  The writers of strings.Builder over this program: what each leaves of the builder, and of all blocks that are neither the builder's nor rows of bytes.
  'Scan' and 'alone' of package token, at every input.
  'Join' of package token.
  Plain functions' laws on tokens, over lists of bytes: the same as over the other laws' program.
  'isInt', 'isQuotable' and 'Check' of package value.
  Commands without memory: what the words of package words say, what the parser of package command answers on tokens, what Check answers.
  What the library's package-level variables hold, as far as this program reads them; strconv's two calls.
  The parser of package command in memory; its next token.
  'giveUp', 'may', 'must', 'oneOf' of the parser.
  Package words.
  'name', 'kindOf', 'number', 'column' of the parser.
  'column' and 'value' of the parser.
  'expr' and 'bracketed' of the parser: expressions in memory.
  'expr' and 'bracketed' of the parser.
  'listed' and 'inBrackets' of the parser.
  'inBrackets' of the parser.
  Commands in memory.
-/
import Derived.Test.YtkpeklealgicpabGreatDoorRows
import Derived.WalkKit
import Derived.WalkSpells
import Derived.WalkLawsBesides
import Derived.Shelf.Strings.Builder1
import Derived.Shelf.Small.Strs
import Derived.Shelf.Small.Wraps
import Derived.Shelf.Strings.BuilderF
import Derived.Shelf.Strings.BuilderK
import Derived.Shelf.Strconv.Atoi
import Derived.Shelf.Strconv.Itoa0
import Derived.Shelf.Strconv.Itoa1
import Derived.Shelf.LaysM
import Derived.Shelf.Strconv.Itoa2
import Derived.Shelf.Strconv.Itoa3
import Derived.Shelf.Strconv.AtoiErrFast
import Derived.Shelf.Strconv.ParseIntEmpty
import Derived.Shelf.Strconv.AtoiFail
import Derived.Shelf.Strconv.Clone
import Derived.Shelf.Strconv.SyntaxError
import Derived.Shelf.LaysC
import Derived.Shelf.Strconv.ToError
import Derived.Shelf.Strconv.Lower
import Derived.Shelf.Strconv.ParseUint10
import Derived.Shelf.Strconv.ParseUint10Empty
import Derived.Shelf.Strconv.ParseUint10Any
import Derived.Shelf.Strconv.ParseInt10
import Derived.Shelf.Strconv.AtoiLong
import Derived.Shelf.Strconv.AtoiInnerAll
import Derived.Shelf.Strconv.RangeError
import Derived.Shelf.Strconv.ToErrorRange
import Derived.Shelf.Strconv.AtoiAll
import Derived.Shelf.Strconv.ErrVarAll
import Derived.Shelf.Strings.Search1
import Derived.Shelf.Strings.Search2
import Derived.Shelf.Strings.Search3
import Derived.Shelf.Strings.Shaped
import Derived.Shelf.Strings.Prefix
import Derived.Test.YtkpeklealgicpabGreatDoorProg
import Derived.Deep.QuietTactic
import Derived.BigQuiet
import Derived.Lib.OthersKept
import Derived.Laws.StructEq

set_option maxRecDepth 100000
set_option maxHeartbeats 8000000
namespace Go.Proofs.YtkpeklealgicpabGreatDoor
open Go.RowKit
theorem ltS {α : Type} {xs : Array α} {i : Nat} {a : α} (h : xs[i]? = some a) : i < xs.size := (Array.getElem?_eq_some_iff.1 h).1
def isL (c : UInt8) : Bool := decide ((97 : Int) ≤ (c.toNat : Int)) && decide ((c.toNat : Int) ≤ 122)
def isD (c : UInt8) : Bool := decide ((48 : Int) ≤ (c.toNat : Int)) && decide ((c.toNat : Int) ≤ 57)
def isW (c : UInt8) : Bool := isL c || isD c
def isQ (c : UInt8) : Bool := decide ((32 : Int) ≤ (c.toNat : Int)) && decide ((c.toNat : Int) ≤ 126) && ((c.toNat : Int) != 39)
def isB (c : UInt8) : Bool := ((c.toNat : Int) == 32) || ((c.toNat : Int) == 9) || ((c.toNat : Int) == 10)
theorem ret_bool {a b : Bool} (h : a = b) : Ending.returned (.bool a) = .returned (.bool b) := by rw [h]
theorem ret_int {k : IntKind} {a b : Int} (h : a = b) : Ending.returned (.int k a) = .returned (.int k b) := by rw [h]
theorem letter_any (c : UInt8) (w : World) :
    Calls Tryz.prog 86 #[.int .u8 (c.toNat : Int)] w fun e w' => e = .returned (.bool (isL c)) ∧ w' = w := by
  go_enter Tryz.func86, Tryz.ntmps86
  go_wp2
  all_goals go_ret
  all_goals exact ⟨ret_bool (by simp [isL, *] <;> omega), rfl⟩
theorem digit_any (c : UInt8) (w : World) :
    Calls Tryz.prog 88 #[.int .u8 (c.toNat : Int)] w fun e w' => e = .returned (.bool (isD c)) ∧ w' = w := by
  go_enter Tryz.func88, Tryz.ntmps88
  go_wp2
  all_goals go_ret
  all_goals exact ⟨ret_bool (by simp [isD, *] <;> omega), rfl⟩
theorem parts_any (c : UInt8) (w : World) :
    Calls Tryz.prog 38 #[.int .u8 (c.toNat : Int)] w fun e w' => e = .returned (.bool (isB c)) ∧ w' = w := by
  go_enter Tryz.func38, Tryz.ntmps38
  go_wp2
  all_goals go_ret
  all_goals exact ⟨ret_bool (by simp [isB, *]), rfl⟩
theorem word_any (c : UInt8) (w : World) :
    Calls Tryz.prog 87 #[.int .u8 (c.toNat : Int)] w fun e w' => e = .returned (.bool (isW c)) ∧ w' = w := by
  cases hL : isL c
  · have HL : Hid (isL c = false) := hL
    have h1 := letter_any c
    rw [hL] at h1
    clear hL
    go_enter Tryz.func87, Tryz.ntmps87
    go_wp2_with (first | (go_at_call 86; refine (h1 _).mono ?_; rintro e w' ⟨rfl, rfl⟩) | (go_at_call 88; refine (digit_any _ _).mono ?_; rintro e w' ⟨rfl, rfl⟩))
    go_ret
    exact ⟨ret_bool (by simp [isW, HL.out]), rfl⟩
  · have HL : Hid (isL c = true) := hL
    have h1 := letter_any c
    rw [hL] at h1
    clear hL
    go_enter Tryz.func87, Tryz.ntmps87
    go_wp2_with (first | (go_at_call 86; refine (h1 _).mono ?_; rintro e w' ⟨rfl, rfl⟩) | (go_at_call 88; refine (digit_any _ _).mono ?_; rintro e w' ⟨rfl, rfl⟩))
    go_ret
    exact ⟨ret_bool (by simp [isW, HL.out]), rfl⟩
theorem quot_any (c : UInt8) (w : World) :
    Calls Tryz.prog 89 #[.int .u8 (c.toNat : Int)] w fun e w' => e = .returned (.bool (isQ c)) ∧ w' = w := by
  go_enter Tryz.func89, Tryz.ntmps89
  go_wp2
  all_goals go_ret
  all_goals exact ⟨ret_bool (by simp [isQ, *] <;> omega), rfl⟩
def runL (p : UInt8 → Bool) (l : List UInt8) : Nat := (l.takeWhile p).length
theorem runL_le (p : UInt8 → Bool) (l : List UInt8) : runL p l ≤ l.length := by
  unfold runL; exact (List.takeWhile_sublist p).length_le
theorem runL_cons (p : UInt8 → Bool) (c : UInt8) (l : List UInt8) : runL p (c :: l) = if p c = true then runL p l + 1 else 0 := by
  unfold runL; rw [List.takeWhile_cons]; split <;> simp
def spanE (p : UInt8 → Bool) (s : ByteArray) (a : Nat) : Nat := a + runL p (s.data.toList.drop a)
theorem drop_at (s : ByteArray) (k : Nat) (h : k < s.size) : s.data.toList.drop k = s[k] :: s.data.toList.drop (k + 1) := by
  rw [List.drop_eq_getElem_cons (by simpa using h)]; rfl
theorem spanE_yes (p : UInt8 → Bool) (s : ByteArray) (k : Nat) (h : k < s.size) (hp : p s[k] = true) : spanE p s k = spanE p s (k + 1) := by
  unfold spanE; rw [drop_at s k h, runL_cons, if_pos hp]; omega
theorem spanE_no (p : UInt8 → Bool) (s : ByteArray) (k : Nat) (h : k < s.size) (hp : p s[k] = false) : spanE p s k = k := by
  unfold spanE; rw [drop_at s k h, runL_cons, if_neg (by simp [hp])]; omega
theorem spanE_end (p : UInt8 → Bool) (s : ByteArray) (k : Nat) (h : ¬ k < s.size) : spanE p s k = k := by
  unfold spanE; rw [List.drop_eq_nil_of_le (by simp; omega)]; simp [runL]
theorem spanE_ge (p : UInt8 → Bool) (s : ByteArray) (k : Nat) : k ≤ spanE p s k := by unfold spanE; omega
theorem spanE_le (p : UInt8 → Bool) (s : ByteArray) (k : Nat) (h : k ≤ s.size) : spanE p s k ≤ s.size := by
  unfold spanE; have := runL_le p (s.data.toList.drop k); simp at this; omega
theorem span_parts (s : ByteArray) (a : Nat) (w : World) (hs : s.size ≤ 9223372036854775000) (ha : a ≤ s.size) :
    Calls Tryz.prog 37 #[.string s, .int .i64 (a : Int), .func (.func 38) #[] #[]] w fun e w' => e = .returned (.int .i64 (spanE isB s a : Nat)) ∧ w' = w := by
  go_enter Tryz.func37, Tryz.ntmps37
  go_wp2
  go_loop [1] (fun i => ∃ k : Nat, k ≤ s.size ∧ i = .int .i64 k ∧ Hid (spanE isB s k = spanE isB s a)) (fun i => s.size - (intOf i).toNat)
  case atStart => exact ⟨a, ha, rfl, rfl⟩
  case round =>
    obtain ⟨k, hk, rfl, hE⟩ := hrel
    by_cases hlt : k < s.size
    · cases hp : isB s[k]
      · have hend := spanE_no isB s k hlt hp
        have h1 := parts_any s[k]
        rw [hp] at h1
        rw [hE.out] at hend
        have HE : Hid (spanE isB s a = k) := hend
        clear hend hE hp
        go_wp2_with (go_at_call 38; refine (h1 _).mono ?_; rintro e w' ⟨rfl, rfl⟩)
        go_ret
        exact ⟨ret_int (by rw [HE.out]), rfl⟩
      · have hend := spanE_yes isB s k hlt hp
        have h1 := parts_any s[k]
        rw [hp] at h1
        rw [hE.out] at hend
        have HE : Hid (spanE isB s (k + 1) = spanE isB s a) := hend.symm
        clear hend hE hp
        go_wp2_with (go_at_call 38; refine (h1 _).mono ?_; rintro e w' ⟨rfl, rfl⟩)
        go_round
        case rel => exact ⟨k + 1, by omega, by go_num, HE⟩
        case measure => simp [intOf]; omega
    · have hend := spanE_end isB s k hlt
      rw [hE.out] at hend
      have HE : Hid (spanE isB s a = k) := hend
      clear hend hE
      go_wp2
      go_ret
      exact ⟨ret_int (by rw [HE.out]), rfl⟩
theorem span_word (s : ByteArray) (a : Nat) (w : World) (hs : s.size ≤ 9223372036854775000) (ha : a ≤ s.size) :
    Calls Tryz.prog 37 #[.string s, .int .i64 (a : Int), .func (.func 87) #[] #[]] w fun e w' => e = .returned (.int .i64 (spanE isW s a : Nat)) ∧ w' = w := by
  go_enter Tryz.func37, Tryz.ntmps37
  go_wp2
  go_loop [1] (fun i => ∃ k : Nat, k ≤ s.size ∧ i = .int .i64 k ∧ Hid (spanE isW s k = spanE isW s a)) (fun i => s.size - (intOf i).toNat)
  case atStart => exact ⟨a, ha, rfl, rfl⟩
  case round =>
    obtain ⟨k, hk, rfl, hE⟩ := hrel
    by_cases hlt : k < s.size
    · cases hp : isW s[k]
      · have hend := spanE_no isW s k hlt hp
        have h1 := word_any s[k]
        rw [hp] at h1
        rw [hE.out] at hend
        have HE : Hid (spanE isW s a = k) := hend
        clear hend hE hp
        go_wp2_with (go_at_call 87; refine (h1 _).mono ?_; rintro e w' ⟨rfl, rfl⟩)
        go_ret
        exact ⟨ret_int (by rw [HE.out]), rfl⟩
      · have hend := spanE_yes isW s k hlt hp
        have h1 := word_any s[k]
        rw [hp] at h1
        rw [hE.out] at hend
        have HE : Hid (spanE isW s (k + 1) = spanE isW s a) := hend.symm
        clear hend hE hp
        go_wp2_with (go_at_call 87; refine (h1 _).mono ?_; rintro e w' ⟨rfl, rfl⟩)
        go_round
        case rel => exact ⟨k + 1, by omega, by go_num, HE⟩
        case measure => simp [intOf]; omega
    · have hend := spanE_end isW s k hlt
      rw [hE.out] at hend
      have HE : Hid (spanE isW s a = k) := hend
      clear hend hE
      go_wp2
      go_ret
      exact ⟨ret_int (by rw [HE.out]), rfl⟩
theorem span_digit (s : ByteArray) (a : Nat) (w : World) (hs : s.size ≤ 9223372036854775000) (ha : a ≤ s.size) :
    Calls Tryz.prog 37 #[.string s, .int .i64 (a : Int), .func (.func 88) #[] #[]] w fun e w' => e = .returned (.int .i64 (spanE isD s a : Nat)) ∧ w' = w := by
  go_enter Tryz.func37, Tryz.ntmps37
  go_wp2
  go_loop [1] (fun i => ∃ k : Nat, k ≤ s.size ∧ i = .int .i64 k ∧ Hid (spanE isD s k = spanE isD s a)) (fun i => s.size - (intOf i).toNat)
  case atStart => exact ⟨a, ha, rfl, rfl⟩
  case round =>
    obtain ⟨k, hk, rfl, hE⟩ := hrel
    by_cases hlt : k < s.size
    · cases hp : isD s[k]
      · have hend := spanE_no isD s k hlt hp
        have h1 := digit_any s[k]
        rw [hp] at h1
        rw [hE.out] at hend
        have HE : Hid (spanE isD s a = k) := hend
        clear hend hE hp
        go_wp2_with (go_at_call 88; refine (h1 _).mono ?_; rintro e w' ⟨rfl, rfl⟩)
        go_ret
        exact ⟨ret_int (by rw [HE.out]), rfl⟩
      · have hend := spanE_yes isD s k hlt hp
        have h1 := digit_any s[k]
        rw [hp] at h1
        rw [hE.out] at hend
        have HE : Hid (spanE isD s (k + 1) = spanE isD s a) := hend.symm
        clear hend hE hp
        go_wp2_with (go_at_call 88; refine (h1 _).mono ?_; rintro e w' ⟨rfl, rfl⟩)
        go_round
        case rel => exact ⟨k + 1, by omega, by go_num, HE⟩
        case measure => simp [intOf]; omega
    · have hend := spanE_end isD s k hlt
      rw [hE.out] at hend
      have HE : Hid (spanE isD s a = k) := hend
      clear hend hE
      go_wp2
      go_ret
      exact ⟨ret_int (by rw [HE.out]), rfl⟩
theorem span_quot (s : ByteArray) (a : Nat) (w : World) (hs : s.size ≤ 9223372036854775000) (ha : a ≤ s.size) :
    Calls Tryz.prog 37 #[.string s, .int .i64 (a : Int), .func (.func 89) #[] #[]] w fun e w' => e = .returned (.int .i64 (spanE isQ s a : Nat)) ∧ w' = w := by
  go_enter Tryz.func37, Tryz.ntmps37
  go_wp2
  go_loop [1] (fun i => ∃ k : Nat, k ≤ s.size ∧ i = .int .i64 k ∧ Hid (spanE isQ s k = spanE isQ s a)) (fun i => s.size - (intOf i).toNat)
  case atStart => exact ⟨a, ha, rfl, rfl⟩
  case round =>
    obtain ⟨k, hk, rfl, hE⟩ := hrel
    by_cases hlt : k < s.size
    · cases hp : isQ s[k]
      · have hend := spanE_no isQ s k hlt hp
        have h1 := quot_any s[k]
        rw [hp] at h1
        rw [hE.out] at hend
        have HE : Hid (spanE isQ s a = k) := hend
        clear hend hE hp
        go_wp2_with (go_at_call 89; refine (h1 _).mono ?_; rintro e w' ⟨rfl, rfl⟩)
        go_ret
        exact ⟨ret_int (by rw [HE.out]), rfl⟩
      · have hend := spanE_yes isQ s k hlt hp
        have h1 := quot_any s[k]
        rw [hp] at h1
        rw [hE.out] at hend
        have HE : Hid (spanE isQ s (k + 1) = spanE isQ s a) := hend.symm
        clear hend hE hp
        go_wp2_with (go_at_call 89; refine (h1 _).mono ?_; rintro e w' ⟨rfl, rfl⟩)
        go_round
        case rel => exact ⟨k + 1, by omega, by go_num, HE⟩
        case measure => simp [intOf]; omega
    · have hend := spanE_end isQ s k hlt
      rw [hE.out] at hend
      have HE : Hid (spanE isQ s a = k) := hend
      clear hend hE
      go_wp2
      go_ret
      exact ⟨ret_int (by rw [HE.out]), rfl⟩
end Go.Proofs.YtkpeklealgicpabGreatDoor
namespace Go.Proofs
open Go.Shelf
def Tryz.lays170_ren : Go.Shelf.Ren := ⟨fun | 170 => 44 | n => n, fun | 70 => 68 | 3 => 3 | 0 => 0 | 72 => 71 | 37 => 69 | 5 => 5 | n => n, fun | n => n⟩
theorem Tryz.lays170 : Go.Proofs.Lays.n170 Tryz.prog Tryz.lays170_ren := {
  mixed := by kernel_rfl
  f170 := Tryz.func44.trans (congrArg some (by kernel_rfl))
  t0 := Tryz.underlying0
  a0 := Tryz.isAgg0
  z0 := Tryz.sizeOf0
  v0 := Tryz.zeroValue0
  t3 := Tryz.underlying3
  a3 := Tryz.isAgg3
  z3 := Tryz.sizeOf3
  v3 := Tryz.zeroValue3
  t37 := Tryz.underlying69
  a37 := Tryz.isAgg69
  z37 := Tryz.sizeOf69
  v37 := Tryz.zeroValue69
  t70 := Tryz.underlying68
  a70 := Tryz.isAgg68
  z70 := Tryz.sizeOf68
  v70 := Tryz.zeroValue68
  t72 := Tryz.underlying71
  a72 := Tryz.isAgg71
  z72 := Tryz.sizeOf71
  v72 := Tryz.zeroValue71 }
open Go.RowKit in
theorem Tryz.Builder_Len (B b : Nat) (bs : List Value) (w : World) (h : Lib.IsBuilder 71 5 B b bs w) :
    Calls Tryz.prog 44 #[.pointer (some ⟨b, 0, none⟩)] w fun e w' => e = .returned (.int .i64 bs.length) ∧ w' = w := Any.Builder_Len Tryz.lays170 B b bs w h
def Tryz.lays169_ren : Go.Shelf.Ren := ⟨fun | 169 => 45 | n => n, fun | 70 => 68 | 9 => 9 | 0 => 0 | 72 => 71 | 37 => 69 | 127 => 116 | 3 => 3 | 5 => 5 | n => n, fun | n => n⟩
theorem Tryz.lays169 : Go.Proofs.Lays.n169 Tryz.prog Tryz.lays169_ren := {
  mixed := by kernel_rfl
  f169 := Tryz.func45.trans (congrArg some (by kernel_rfl))
  t0 := Tryz.underlying0
  a0 := Tryz.isAgg0
  z0 := Tryz.sizeOf0
  v0 := Tryz.zeroValue0
  t3 := Tryz.underlying3
  a3 := Tryz.isAgg3
  z3 := Tryz.sizeOf3
  v3 := Tryz.zeroValue3
  t9 := Tryz.underlying9
  a9 := Tryz.isAgg9
  z9 := Tryz.sizeOf9
  v9 := Tryz.zeroValue9
  t37 := Tryz.underlying69
  a37 := Tryz.isAgg69
  z37 := Tryz.sizeOf69
  v37 := Tryz.zeroValue69
  t70 := Tryz.underlying68
  a70 := Tryz.isAgg68
  z70 := Tryz.sizeOf68
  v70 := Tryz.zeroValue68
  t72 := Tryz.underlying71
  a72 := Tryz.isAgg71
  z72 := Tryz.sizeOf71
  v72 := Tryz.zeroValue71
  t127 := Tryz.underlying116
  a127 := Tryz.isAgg116
  z127 := Tryz.sizeOf116
  v127 := Tryz.zeroValue116 }
theorem Tryz.Builder_Extra_169 : Builder.Extra Tryz.prog Tryz.lays169_ren := {
  sizeBuilder := by kernel_rfl
  liesBuilder := by kernel_rfl
  t5 := Tryz.underlying5
  a5 := Tryz.isAgg5
  z5 := Tryz.sizeOf5
  v5 := Tryz.zeroValue5
  infoByte := by kernel_rfl
  cellsByte := by kernel_rfl
  sizeByte := by kernel_rfl
  neB5 := by decide }
open Go.RowKit in
theorem Tryz.Builder_String_any (B b : Nat) (l : List UInt8) (w : World) (h : Lib.IsBuilder 71 5 B b (Lib.byteCells l) w) (hBw : B ≤ w.heap.size) :
    Calls Tryz.prog 45 #[.pointer (some ⟨b, 0, none⟩)] w fun e w' => e = .returned (.string ⟨l.toArray⟩) ∧ Below B w w' := Any.Builder_String_any Tryz.lays169 Tryz.Builder_Extra_169 B b l w h hBw
def Tryz.lays137_ren : Go.Shelf.Ren := ⟨fun | 137 => 91 | 217 => 132 | 266 => 165 | n => n, fun | 9 => 9 | 5 => 5 | 3 => 3 | n => n, fun | n => n⟩
theorem Tryz.lays137 : Go.Proofs.Lays.n137 Tryz.prog Tryz.lays137_ren := {
  mixed := by kernel_rfl
  f137 := Tryz.func91.trans (congrArg some (by kernel_rfl))
  f217 := Tryz.func132.trans (congrArg some (by kernel_rfl))
  f266 := Tryz.func165.trans (congrArg some (by kernel_rfl))
  t3 := Tryz.underlying3
  a3 := Tryz.isAgg3
  z3 := Tryz.sizeOf3
  v3 := Tryz.zeroValue3
  t5 := Tryz.underlying5
  a5 := Tryz.isAgg5
  z5 := Tryz.sizeOf5
  v5 := Tryz.zeroValue5
  t9 := Tryz.underlying9
  a9 := Tryz.isAgg9
  z9 := Tryz.sizeOf9
  v9 := Tryz.zeroValue9 }
open Go.RowKit in
theorem Tryz.strings_IndexByte (s : ByteArray) (c : Int) (w : World) :
    Calls Tryz.prog 91 #[.string s, .int .u8 c] w fun e w' => e = .returned (.int .i64 (Lib.indexByte s.data.toList c.toNat.toUInt8)) ∧ w' = w := Any.strings_IndexByte Tryz.lays137 s c w
def Tryz.lays172_ren : Go.Shelf.Ren := ⟨fun | 172 => 174 | 244 => 182 | 245 => 183 | 247 => 192 | 279 => 193 | 280 => 194 | 281 => 195 | 282 => 196 | 287 => 203 | 316 => 204 | 171 => 136 | 205 => 205 | 321 => 208 | 322 => 209 | 243 => 166 | 246 => 179 | 283 => 187 | 284 => 188 | 285 => 189 | 286 => 190 | 129 => 199 | 317 => 198 | 318 => 200 | 319 => 201 | 320 => 202 | 337 => 206 | 338 => 207 | n => n, fun | 9 => 9 | 3 => 3 | 75 => 74 | 76 => 76 | 4 => 4 | 5 => 5 | 167 => 164 | 37 => 69 | 0 => 0 | 85 => 165 | 2 => 2 | 168 => 167 | 53 => 159 | 175 => 177 | 46 => 157 | 210 => 181 | 127 => 116 | 145 => 187 | 143 => 185 | 21 => 21 | 171 => 158 | 173 => 162 | 212 => 174 | 51 => 170 | 20 => 20 | 213 => 175 | 232 => 188 | 233 => 189 | 80 => 78 | n => n, fun | 15 => 2 | 16 => 3 | 17 => 1 | 18 => 4 | 19 => 5 | n => n⟩
def Tryz.laysC172_ren : Go.Shelf.Ren := ⟨fun | 172 => 174 | 244 => 182 | 245 => 183 | 247 => 192 | 279 => 193 | 280 => 194 | 281 => 195 | 282 => 196 | 287 => 203 | 316 => 204 | 171 => 136 | 205 => 205 | 321 => 208 | 322 => 209 | 243 => 166 | 246 => 179 | 283 => 187 | 284 => 188 | 285 => 189 | 286 => 190 | 129 => 199 | 317 => 198 | 318 => 200 | 319 => 201 | 320 => 202 | 337 => 206 | 338 => 207 | n => n, fun | 9 => 9 | 3 => 3 | 75 => 74 | 76 => 76 | 4 => 4 | 5 => 5 | 167 => 164 | 37 => 69 | 0 => 0 | 85 => 165 | 2 => 2 | 168 => 167 | 53 => 159 | 175 => 177 | 46 => 157 | 210 => 181 | 127 => 116 | 145 => 187 | 143 => 185 | 21 => 21 | 171 => 158 | 173 => 162 | 212 => 174 | 51 => 170 | 20 => 20 | 213 => 175 | 232 => 188 | 233 => 189 | 80 => 78 | n => n, fun | 15 => 2 | 16 => 3 | 17 => 1 | 18 => 4 | 19 => 5 | n => n⟩
theorem Tryz.laysC172 : Go.Proofs.LaysC.n172 Tryz.prog Tryz.laysC172_ren := {
  mixed := by kernel_rfl
  f129 := Tryz.func199.trans (congrArg some (by kernel_rfl))
  f171 := Tryz.func136.trans (congrArg some (by kernel_rfl))
  f172 := Tryz.func174.trans (congrArg some (by kernel_rfl))
  f205 := Tryz.func205.trans (congrArg some (by kernel_rfl))
  f243 := Tryz.func166.trans (congrArg some (by kernel_rfl))
  f244 := Tryz.func182.trans (congrArg some (by kernel_rfl))
  f245 := Tryz.func183.trans (congrArg some (by kernel_rfl))
  f246 := Tryz.func179.trans (congrArg some (by kernel_rfl))
  f247 := Tryz.func192.trans (congrArg some (by kernel_rfl))
  f279 := Tryz.func193.trans (congrArg some (by kernel_rfl))
  f280 := Tryz.func194.trans (congrArg some (by kernel_rfl))
  f281 := Tryz.func195.trans (congrArg some (by kernel_rfl))
  f282 := Tryz.func196.trans (congrArg some (by kernel_rfl))
  f283 := Tryz.func187.trans (congrArg some (by kernel_rfl))
  f284 := Tryz.func188.trans (congrArg some (by kernel_rfl))
  f285 := Tryz.func189.trans (congrArg some (by kernel_rfl))
  f286 := Tryz.func190.trans (congrArg some (by kernel_rfl))
  f287 := Tryz.func203.trans (congrArg some (by kernel_rfl))
  f316 := Tryz.func204.trans (congrArg some (by kernel_rfl))
  f317 := Tryz.func198.trans (congrArg some (by kernel_rfl))
  f318 := Tryz.func200.trans (congrArg some (by kernel_rfl))
  f319 := Tryz.func201.trans (congrArg some (by kernel_rfl))
  f320 := Tryz.func202.trans (congrArg some (by kernel_rfl))
  f321 := Tryz.func208.trans (congrArg some (by kernel_rfl))
  f322 := Tryz.func209.trans (congrArg some (by kernel_rfl))
  f337 := Tryz.func206.trans (congrArg some (by kernel_rfl))
  f338 := Tryz.func207.trans (congrArg some (by kernel_rfl))
  t0 := Tryz.underlying0
  a0 := Tryz.isAgg0
  z0 := Tryz.sizeOf0
  v0 := Tryz.zeroValue0
  t2 := Tryz.underlying2
  a2 := Tryz.isAgg2
  z2 := Tryz.sizeOf2
  v2 := Tryz.zeroValue2
  t3 := Tryz.underlying3
  a3 := Tryz.isAgg3
  z3 := Tryz.sizeOf3
  v3 := Tryz.zeroValue3
  t4 := Tryz.underlying4
  a4 := Tryz.isAgg4
  z4 := Tryz.sizeOf4
  v4 := Tryz.zeroValue4
  t5 := Tryz.underlying5
  a5 := Tryz.isAgg5
  z5 := Tryz.sizeOf5
  v5 := Tryz.zeroValue5
  t9 := Tryz.underlying9
  a9 := Tryz.isAgg9
  z9 := Tryz.sizeOf9
  v9 := Tryz.zeroValue9
  t20 := Tryz.underlying20
  a20 := Tryz.isAgg20
  z20 := Tryz.sizeOf20
  v20 := Tryz.zeroValue20
  t21 := Tryz.underlying21
  a21 := Tryz.isAgg21
  z21 := Tryz.sizeOf21
  v21 := Tryz.zeroValue21
  t37 := Tryz.underlying69
  a37 := Tryz.isAgg69
  z37 := Tryz.sizeOf69
  v37 := Tryz.zeroValue69
  t46 := Tryz.underlying157
  a46 := Tryz.isAgg157
  z46 := Tryz.sizeOf157
  v46 := Tryz.zeroValue157
  t51 := Tryz.underlying170
  a51 := Tryz.isAgg170
  z51 := Tryz.sizeOf170
  v51 := Tryz.zeroValue170
  t53 := Tryz.underlying159
  a53 := Tryz.isAgg159
  z53 := Tryz.sizeOf159
  v53 := Tryz.zeroValue159
  t75 := Tryz.underlying74
  a75 := Tryz.isAgg74
  z75 := Tryz.sizeOf74
  v75 := Tryz.zeroValue74
  t76 := Tryz.underlying76
  a76 := Tryz.isAgg76
  z76 := Tryz.sizeOf76
  v76 := Tryz.zeroValue76
  t85 := Tryz.underlying165
  a85 := Tryz.isAgg165
  z85 := Tryz.sizeOf165
  v85 := Tryz.zeroValue165
  t127 := Tryz.underlying116
  a127 := Tryz.isAgg116
  z127 := Tryz.sizeOf116
  v127 := Tryz.zeroValue116
  t143 := Tryz.underlying185
  a143 := Tryz.isAgg185
  z143 := Tryz.sizeOf185
  v143 := Tryz.zeroValue185
  t145 := Tryz.underlying187
  a145 := Tryz.isAgg187
  z145 := Tryz.sizeOf187
  v145 := Tryz.zeroValue187
  t167 := Tryz.underlying164
  a167 := Tryz.isAgg164
  z167 := Tryz.sizeOf164
  v167 := Tryz.zeroValue164
  t168 := Tryz.underlying167
  a168 := Tryz.isAgg167
  z168 := Tryz.sizeOf167
  v168 := Tryz.zeroValue167
  t171 := Tryz.underlying158
  a171 := Tryz.isAgg158
  z171 := Tryz.sizeOf158
  v171 := Tryz.zeroValue158
  t173 := Tryz.underlying162
  a173 := Tryz.isAgg162
  z173 := Tryz.sizeOf162
  v173 := Tryz.zeroValue162
  t175 := Tryz.underlying177
  a175 := Tryz.isAgg177
  z175 := Tryz.sizeOf177
  v175 := Tryz.zeroValue177
  t210 := Tryz.underlying181
  a210 := Tryz.isAgg181
  z210 := Tryz.sizeOf181
  v210 := Tryz.zeroValue181
  t212 := Tryz.underlying174
  a212 := Tryz.isAgg174
  z212 := Tryz.sizeOf174
  v212 := Tryz.zeroValue174
  t213 := Tryz.underlying175
  a213 := Tryz.isAgg175
  z213 := Tryz.sizeOf175
  t232 := Tryz.underlying188
  a232 := Tryz.isAgg188
  z232 := Tryz.sizeOf188
  v232 := Tryz.zeroValue188
  t233 := Tryz.underlying189
  a233 := Tryz.isAgg189
  z233 := Tryz.sizeOf189
  v233 := Tryz.zeroValue189
  g15 := by kernel_rfl
  g16 := by kernel_rfl
  g17 := by kernel_rfl
  g18 := by kernel_rfl
  g19 := by kernel_rfl
  t80 := Tryz.underlying78
  a80 := Tryz.isAgg78
  z80 := Tryz.sizeOf78
  v80 := Tryz.zeroValue78
  i0 := by kernel_rfl
  i2 := by kernel_rfl
  i3 := by kernel_rfl
  i4 := by kernel_rfl
  i5 := by kernel_rfl
  i9 := by kernel_rfl
  i20 := by kernel_rfl
  i21 := by kernel_rfl
  i37 := by kernel_rfl
  i46 := by kernel_rfl
  i51 := by kernel_rfl
  i53 := by kernel_rfl
  i75 := by kernel_rfl
  i76 := by kernel_rfl
  i80 := by kernel_rfl
  i85 := by kernel_rfl
  i127 := by kernel_rfl
  i143 := by kernel_rfl
  i145 := by kernel_rfl
  i167 := by kernel_rfl
  i168 := by kernel_rfl
  i171 := by kernel_rfl
  i173 := by kernel_rfl
  i175 := by kernel_rfl
  i210 := by kernel_rfl
  i212 := by kernel_rfl
  i232 := by kernel_rfl
  i233 := by kernel_rfl
  m15 := by kernel_rfl
  m16 := by kernel_rfl
  m17 := by kernel_rfl
  m18 := by kernel_rfl
  m19 := by kernel_rfl
  c0 := by kernel_rfl
  c2 := by kernel_rfl
  c3 := by kernel_rfl
  c4 := by kernel_rfl
  c5 := by kernel_rfl
  c9 := by kernel_rfl
  c20 := by kernel_rfl
  c21 := by kernel_rfl
  c37 := by kernel_rfl
  c46 := by kernel_rfl
  c51 := by kernel_rfl
  c53 := by kernel_rfl
  c75 := by kernel_rfl
  c76 := by kernel_rfl
  c80 := by kernel_rfl
  c85 := by kernel_rfl
  c127 := by kernel_rfl
  c143 := by kernel_rfl
  c145 := by kernel_rfl
  c167 := by kernel_rfl
  c168 := by kernel_rfl
  c171 := by kernel_rfl
  c173 := by kernel_rfl
  c175 := by kernel_rfl
  c210 := by kernel_rfl
  c212 := by kernel_rfl
  c213 := by kernel_rfl
  c232 := by kernel_rfl
  c233 := by kernel_rfl }
open Go.RowKit in
theorem Tryz.strconv_Atoi_ok (s : ByteArray) (hmax : s.size ≤ 9223372036854775806) (v : Int) (h : Lib.atoiAll s.data.toList = .ok v) (w : World) :
    Calls Tryz.prog 174 #[.string s] w fun e w' => e = .returned (.tuple #[.int .i64 v, .nilIface]) ∧ (w' = w ∨ ∃ t, w' = Lib.bytesWorld w 5 t) := Any.strconv_Atoi_ok Tryz.laysC172 s hmax v h w
open Go.RowKit in
theorem Tryz.strconv_Atoi_syntax_var (s : ByteArray) (hlim : s.size ≤ 281474976710656) (h : Lib.atoiAll s.data.toList = .«syntax») (tp : TypeId) (p : Value) (w : World) (hvar : w.var? Tryz.prog "strconv.ErrSyntax" = some #[.iface tp p]) :
    Calls Tryz.prog 174 #[.string s] w fun e w' => ∃ N, e = .returned (.tuple #[.int .i64 0, .iface 167 (.pointer (some ⟨N, 0, none⟩))]) ∧ w.heap.size ≤ N ∧ w'.heap[N]? = some (.cells #[.string ⟨#[65, 116, 111, 105]⟩, .string s, .iface tp p] 181 (0, 0)) ∧ Below w.heap.size w w' := Any.strconv_Atoi_syntax_var Tryz.laysC172 s hlim h tp p w hvar
open Go.RowKit in
theorem Tryz.strconv_Atoi_range_var (s : ByteArray) (hlim : s.size ≤ 281474976710656) (h : Lib.atoiAll s.data.toList = .range) (tp : TypeId) (p : Value) (w : World) (hvar : w.var? Tryz.prog "strconv.ErrRange" = some #[.iface tp p]) :
    Calls Tryz.prog 174 #[.string s] w fun e w' => ∃ N, e = .returned (.tuple #[.int .i64 (Lib.atoiSat s.data.toList), .iface 167 (.pointer (some ⟨N, 0, none⟩))]) ∧ w.heap.size ≤ N ∧ w'.heap[N]? = some (.cells #[.string ⟨#[65, 116, 111, 105]⟩, .string s, .iface tp p] 181 (0, 0)) ∧ Below w.heap.size w w' := Any.strconv_Atoi_range_var Tryz.laysC172 s hlim h tp p w hvar
def Tryz.lays219_ren : Go.Shelf.Ren := ⟨fun | 219 => 175 | 217 => 132 | 225 => 184 | 224 => 185 | 267 => 186 | 266 => 165 | 314 => 197 | n => n, fun | 9 => 9 | 3 => 3 | 4 => 4 | 5 => 5 | 46 => 157 | 146 => 171 | 51 => 170 | n => n, fun | 1 => 0 | n => n⟩
def Tryz.lays144_ren : Go.Shelf.Ren := ⟨fun | 144 => 120 | 143 => 153 | 219 => 175 | 217 => 132 | 225 => 184 | 224 => 185 | 267 => 186 | 266 => 165 | 314 => 197 | n => n, fun | 9 => 9 | 4 => 4 | 3 => 3 | 5 => 5 | 46 => 157 | 146 => 171 | 51 => 170 | n => n, fun | 1 => 0 | n => n⟩
theorem Tryz.lays144 : Go.Proofs.Lays.n144 Tryz.prog Tryz.lays144_ren := {
  mixed := by kernel_rfl
  f143 := Tryz.func153.trans (congrArg some (by kernel_rfl))
  f144 := Tryz.func120.trans (congrArg some (by kernel_rfl))
  f217 := Tryz.func132.trans (congrArg some (by kernel_rfl))
  f219 := Tryz.func175.trans (congrArg some (by kernel_rfl))
  f224 := Tryz.func185.trans (congrArg some (by kernel_rfl))
  f225 := Tryz.func184.trans (congrArg some (by kernel_rfl))
  f266 := Tryz.func165.trans (congrArg some (by kernel_rfl))
  f267 := Tryz.func186.trans (congrArg some (by kernel_rfl))
  f314 := Tryz.func197.trans (congrArg some (by kernel_rfl))
  t3 := Tryz.underlying3
  a3 := Tryz.isAgg3
  z3 := Tryz.sizeOf3
  v3 := Tryz.zeroValue3
  t4 := Tryz.underlying4
  a4 := Tryz.isAgg4
  z4 := Tryz.sizeOf4
  v4 := Tryz.zeroValue4
  t5 := Tryz.underlying5
  a5 := Tryz.isAgg5
  z5 := Tryz.sizeOf5
  v5 := Tryz.zeroValue5
  t9 := Tryz.underlying9
  a9 := Tryz.isAgg9
  z9 := Tryz.sizeOf9
  v9 := Tryz.zeroValue9
  t46 := Tryz.underlying157
  a46 := Tryz.isAgg157
  z46 := Tryz.sizeOf157
  v46 := Tryz.zeroValue157
  t51 := Tryz.underlying170
  a51 := Tryz.isAgg170
  z51 := Tryz.sizeOf170
  v51 := Tryz.zeroValue170
  t146 := Tryz.underlying171
  a146 := Tryz.isAgg171
  z146 := Tryz.sizeOf171
  v146 := Tryz.zeroValue171
  g1 := by kernel_rfl }
open Go.RowKit Go.Lib in
theorem Tryz.strings_Contains (s sub : ByteArray) (m : Int) (w : World) (hs : s.size < 4294967281) (hm : w.cell? ⟨0, 0, none⟩ = some (.int .i64 m)) :
    Calls Tryz.prog 120 #[.string s, .string sub] w fun e w' => e = .returned (.bool (Lib.contains s.data.toList sub.data.toList)) ∧ w' = w := Any.strings_Contains Tryz.lays144 s sub m w hs hm
def Tryz.lays206_ren : Go.Shelf.Ren := ⟨fun | 206 => 131 | n => n, fun | 9 => 9 | 4 => 4 | 3 => 3 | n => n, fun | n => n⟩
def Tryz.lays99_ren : Go.Shelf.Ren := ⟨fun | 99 => 90 | 206 => 131 | n => n, fun | 9 => 9 | 4 => 4 | 3 => 3 | n => n, fun | n => n⟩
theorem Tryz.lays99 : Go.Proofs.Lays.n99 Tryz.prog Tryz.lays99_ren := {
  mixed := by kernel_rfl
  f99 := Tryz.func90.trans (congrArg some (by kernel_rfl))
  f206 := Tryz.func131.trans (congrArg some (by kernel_rfl))
  t3 := Tryz.underlying3
  a3 := Tryz.isAgg3
  z3 := Tryz.sizeOf3
  v3 := Tryz.zeroValue3
  t4 := Tryz.underlying4
  a4 := Tryz.isAgg4
  z4 := Tryz.sizeOf4
  v4 := Tryz.zeroValue4
  t9 := Tryz.underlying9
  a9 := Tryz.isAgg9
  z9 := Tryz.sizeOf9
  v9 := Tryz.zeroValue9 }
open Go.RowKit Go.Lib in
theorem Tryz.strings_HasPrefix (s p : ByteArray) (w : World) :
    Calls Tryz.prog 90 #[.string s, .string p] w fun e w' => e = .returned (.bool (Lib.hasPrefix s.data.toList p.data.toList)) ∧ w' = w := Any.strings_HasPrefix Tryz.lays99 s p w
end Go.Proofs
namespace Go.Proofs.YtkpeklealgicpabGreatDoor
open Go.RowKit
theorem isL_rw {c : UInt8} {b : Bool} (h : isL c = b) (w : World) : Calls Tryz.prog 86 #[.int .u8 (c.toNat : Int)] w fun e w' => e = .returned (.bool b) ∧ w' = w := by
  rw [← h]; exact letter_any c w
theorem isD_rw {c : UInt8} {b : Bool} (h : isD c = b) (w : World) : Calls Tryz.prog 88 #[.int .u8 (c.toNat : Int)] w fun e w' => e = .returned (.bool b) ∧ w' = w := by
  rw [← h]; exact digit_any c w
theorem span_quot_at (s : ByteArray) (a : Nat) (i : Int) (w : World) (hi : i = (a : Int)) (hs : s.size ≤ 9223372036854775000) (ha : a ≤ s.size) :
    Calls Tryz.prog 37 #[.string s, .int .i64 i, .func (.func 89) #[] #[]] w fun e w' => e = .returned (.int .i64 (spanE isQ s a : Nat)) ∧ w' = w := by
  subst hi; exact span_quot s a w hs ha
theorem next_name (s : ByteArray) (a : Nat) (w : World) (hs : s.size ≤ 2000) (ha : a < s.size) (hc : isL s[a] = true) :
    Calls Tryz.prog 39 #[.string s, .int .i64 (a : Int)] w fun e w' => e = .returned (.agg #[.int .i64 1, .int .i64 (a : Int), .string (s.extract a (spanE isW s a))]) ∧ Below w.heap.size w w' := by
  have h1 := isL_rw hc
  have h2 := spanE_le isW s a (by omega)
  have h3 := spanE_ge isW s a
  clear hc
  go_enter Tryz.func39, Tryz.ntmps39
  go_wp2_with (first | (go_at_call 86; refine (h1 _).mono ?_; rintro e w' ⟨rfl, rfl⟩) | (go_at_call 37; refine (span_word _ _ _ (by omega) (by omega)).mono ?_; rintro e w' ⟨rfl, rfl⟩))
  exact bodyPost_ret (v := .agg #[.int .i64 1, .int .i64 (a : Int), .string (s.extract a (spanE isW s a))]) (by simp [results, Tryz.results39, go_sem]) rfl ⟨rfl, (Below.refl _ _).alloc (Nat.le_refl _) _⟩
theorem next_number (s : ByteArray) (a : Nat) (w : World) (hs : s.size ≤ 2000) (ha : a < s.size) (hc : isL s[a] = false) (hd : isD s[a] = true) :
    Calls Tryz.prog 39 #[.string s, .int .i64 (a : Int)] w fun e w' => e = .returned (.agg #[.int .i64 2, .int .i64 (a : Int), .string (s.extract a (spanE isD s a))]) ∧ Below w.heap.size w w' := by
  have h1 := isL_rw hc
  have h1b := isD_rw hd
  have h2 := spanE_le isD s a (by omega)
  have h3 := spanE_ge isD s a
  clear hc hd
  go_enter Tryz.func39, Tryz.ntmps39
  go_wp2_with (first | (go_at_call 86; refine (h1 _).mono ?_; rintro e w' ⟨rfl, rfl⟩) | (go_at_call 88; refine (h1b _).mono ?_; rintro e w' ⟨rfl, rfl⟩) | (go_at_call 37; refine (span_digit _ _ _ (by omega) (by omega)).mono ?_; rintro e w' ⟨rfl, rfl⟩))
  exact bodyPost_ret (v := .agg #[.int .i64 2, .int .i64 (a : Int), .string (s.extract a (spanE isD s a))]) (by simp [results, Tryz.results39, go_sem]) rfl ⟨rfl, (Below.refl _ _).alloc (Nat.le_refl _) _⟩
theorem next_text (s : ByteArray) (a : Nat) (w : World) (hs : s.size ≤ 2000) (ha : a < s.size) (hc : isL s[a] = false) (hd : isD s[a] = false) (hq : ((s[a].toNat : Int) == 39) = true)
    (he : spanE isQ s (a + 1) < s.size) (hz : ((s[spanE isQ s (a + 1)].toNat : Int) == 39) = true) :
    Calls Tryz.prog 39 #[.string s, .int .i64 (a : Int)] w fun e w' => e = .returned (.agg #[.int .i64 3, .int .i64 (a : Int), .string (s.extract a (spanE isQ s (a + 1) + 1))]) ∧ Below w.heap.size w w' := by
  have h1 := isL_rw hc
  have h1b := isD_rw hd
  have h3 := spanE_ge isQ s (a + 1)
  clear hc hd
  go_enter Tryz.func39, Tryz.ntmps39
  go_wp2_with (first | (go_at_call 86; refine (h1 _).mono ?_; rintro e w' ⟨rfl, rfl⟩) | (go_at_call 88; refine (h1b _).mono ?_; rintro e w' ⟨rfl, rfl⟩) | (go_at_call 37; refine (span_quot_at s (a + 1) _ _ (by omega) (by omega) (by omega)).mono ?_; rintro e w' ⟨rfl, rfl⟩))
  exact bodyPost_ret (v := .agg #[.int .i64 3, .int .i64 (a : Int), .string (s.extract a (spanE isQ s (a + 1) + 1))]) (by simp [results, Tryz.results39, go_sem]) rfl ⟨rfl, (Below.refl _ _).alloc (Nat.le_refl _) _⟩
theorem next_open (s : ByteArray) (a : Nat) (w : World) (hs : s.size ≤ 2000) (ha : a < s.size) (hc : isL s[a] = false) (hd : isD s[a] = false) (hq : ((s[a].toNat : Int) == 39) = true)
    (he : ¬ spanE isQ s (a + 1) < s.size) :
    Calls Tryz.prog 39 #[.string s, .int .i64 (a : Int)] w fun e w' => e = .returned (.agg #[.int .i64 0, .int .i64 0, .string ⟨#[]⟩]) ∧ Below w.heap.size w w' := by
  have h1 := isL_rw hc
  have h1b := isD_rw hd
  have h3 := spanE_ge isQ s (a + 1)
  clear hc hd
  go_enter Tryz.func39, Tryz.ntmps39
  go_wp2_with (first | (go_at_call 86; refine (h1 _).mono ?_; rintro e w' ⟨rfl, rfl⟩) | (go_at_call 88; refine (h1b _).mono ?_; rintro e w' ⟨rfl, rfl⟩) | (go_at_call 37; refine (span_quot_at s (a + 1) _ _ (by omega) (by omega) (by omega)).mono ?_; rintro e w' ⟨rfl, rfl⟩))
  exact bodyPost_ret (v := .agg #[.int .i64 0, .int .i64 0, .string ⟨#[]⟩]) (by simp [results, Tryz.results39, go_sem]) rfl ⟨rfl, (Below.refl _ _).alloc (Nat.le_refl _) _⟩
theorem next_broken (s : ByteArray) (a : Nat) (w : World) (hs : s.size ≤ 2000) (ha : a < s.size) (hc : isL s[a] = false) (hd : isD s[a] = false) (hq : ((s[a].toNat : Int) == 39) = true)
    (he : spanE isQ s (a + 1) < s.size) (hz : ((s[spanE isQ s (a + 1)].toNat : Int) == 39) = false) :
    Calls Tryz.prog 39 #[.string s, .int .i64 (a : Int)] w fun e w' => e = .returned (.agg #[.int .i64 0, .int .i64 0, .string ⟨#[]⟩]) ∧ Below w.heap.size w w' := by
  have h1 := isL_rw hc
  have h1b := isD_rw hd
  have h3 := spanE_ge isQ s (a + 1)
  clear hc hd
  go_enter Tryz.func39, Tryz.ntmps39
  go_wp2_with (first | (go_at_call 86; refine (h1 _).mono ?_; rintro e w' ⟨rfl, rfl⟩) | (go_at_call 88; refine (h1b _).mono ?_; rintro e w' ⟨rfl, rfl⟩) | (go_at_call 37; refine (span_quot_at s (a + 1) _ _ (by omega) (by omega) (by omega)).mono ?_; rintro e w' ⟨rfl, rfl⟩))
  exact bodyPost_ret (v := .agg #[.int .i64 0, .int .i64 0, .string ⟨#[]⟩]) (by simp [results, Tryz.results39, go_sem]) rfl ⟨rfl, (Below.refl _ _).alloc (Nat.le_refl _) _⟩
def isBars (l : List UInt8) : Bool := Lib.hasPrefix l [124, 124]
def isS (c : UInt8) : Bool := decide (c ∈ ([40, 41, 44, 59, 42, 61, 60, 43, 45] : List UInt8))
theorem extract_end (s : ByteArray) (a : Nat) : (s.extract a s.size).data.toList = s.data.toList.drop a := by
  rw [Lib.extract_data, List.take_of_length_le]
  simp
theorem hasPrefix_rw (s : ByteArray) (a : Nat) {b : Bool} (h : isBars (s.data.toList.drop a) = b) (w : World) :
    Calls Tryz.prog 90 #[.string (s.extract a s.size), .string ⟨#[124, 124]⟩] w fun e w' => e = .returned (.bool b) ∧ w' = w := by
  have := Tryz.strings_HasPrefix (s.extract a s.size) ⟨#[124, 124]⟩ w
  rw [extract_end] at this
  rw [← h]; exact this
theorem indexByte_mem (l : List UInt8) (c : UInt8) : 0 ≤ Lib.indexByte l c ↔ c ∈ l := by
  induction l with
  | nil => simp [Lib.indexByte]
  | cons b l ih =>
    have g := Lib.indexByte_ge l c
    unfold Lib.indexByte
    by_cases h : b = c
    · subst h; simp
    · have h' : ¬ c = b := fun e => h e.symm
      rw [if_neg (by simpa using h)]
      by_cases h2 : Lib.indexByte l c = -1
      · rw [if_pos (by simpa using h2)]
        have : ¬ c ∈ l := fun m => by have := ih.2 m; omega
        simp [h', this]
      · rw [if_neg (by simpa using h2)]
        have : c ∈ l := ih.1 (by omega)
        simp [this]; omega
theorem indexByte_rw (c : UInt8) (w : World) :
    Calls Tryz.prog 91 #[.string ⟨#[40, 41, 44, 59, 42, 61, 60, 43, 45]⟩, .int .u8 (c.toNat : Int)] w fun e w' => (∃ n : Int, e = .returned (.int .i64 n) ∧ (0 ≤ n ↔ isS c = true)) ∧ w' = w := by
  refine (Tryz.strings_IndexByte _ _ _).mono ?_
  rintro e w' ⟨rfl, rfl⟩
  refine ⟨⟨_, rfl, ?_⟩, rfl⟩
  rw [indexByte_mem]
  simp [isS]
theorem next_bars (s : ByteArray) (a : Nat) (w : World) (hs : s.size ≤ 2000) (ha : a + 2 ≤ s.size) (hc : isL s[a] = false) (hd : isD s[a] = false) (hq : ((s[a].toNat : Int) == 39) = false)
    (hp : isBars (s.data.toList.drop a) = true) :
    Calls Tryz.prog 39 #[.string s, .int .i64 (a : Int)] w fun e w' => e = .returned (.agg #[.int .i64 4, .int .i64 (a : Int), .string (s.extract a (a + 2))]) ∧ Below w.heap.size w w' := by
  have h1 := isL_rw hc
  have h1b := isD_rw hd
  have h2 := hasPrefix_rw s a hp
  clear hc hd hp
  go_enter Tryz.func39, Tryz.ntmps39
  go_wp2_with (first | (go_at_call 86; refine (h1 _).mono ?_; rintro e w' ⟨rfl, rfl⟩) | (go_at_call 88; refine (h1b _).mono ?_; rintro e w' ⟨rfl, rfl⟩) | (go_at_call 90; refine (h2 _).mono ?_; rintro e w' ⟨rfl, rfl⟩))
  exact bodyPost_ret (v := .agg #[.int .i64 4, .int .i64 (a : Int), .string (s.extract a (a + 2))]) (by simp [results, Tryz.results39, go_sem]) rfl ⟨rfl, (Below.refl _ _).alloc (Nat.le_refl _) _⟩
theorem next_sign (s : ByteArray) (a : Nat) (w : World) (hs : s.size ≤ 2000) (ha : a < s.size) (hc : isL s[a] = false) (hd : isD s[a] = false) (hq : ((s[a].toNat : Int) == 39) = false)
    (hp : isBars (s.data.toList.drop a) = false) (hg : isS s[a] = true) :
    Calls Tryz.prog 39 #[.string s, .int .i64 (a : Int)] w fun e w' => e = .returned (.agg #[.int .i64 4, .int .i64 (a : Int), .string (s.extract a (a + 1))]) ∧ Below w.heap.size w w' := by
  have h1 := isL_rw hc
  have h1b := isD_rw hd
  have h2 := hasPrefix_rw s a hp
  have HG : Hid (isS s[a] = true) := hg
  clear hc hd hp hg
  go_enter Tryz.func39, Tryz.ntmps39
  go_wp2_with (first | (go_at_call 86; refine (h1 _).mono ?_; rintro e w' ⟨rfl, rfl⟩) | (go_at_call 88; refine (h1b _).mono ?_; rintro e w' ⟨rfl, rfl⟩) | (go_at_call 90; refine (h2 _).mono ?_; rintro e w' ⟨rfl, rfl⟩) | (go_at_call 91; refine (indexByte_rw _ _).mono ?_; rintro e w' ⟨⟨n, rfl, hn⟩, rfl⟩; replace hn := hn.2 HG.out))
  exact bodyPost_ret (v := .agg #[.int .i64 4, .int .i64 (a : Int), .string (s.extract a (a + 1))]) (by simp [results, Tryz.results39, go_sem]) rfl ⟨rfl, (Below.refl _ _).alloc (Nat.le_refl _) _⟩
theorem next_none (s : ByteArray) (a : Nat) (w : World) (_hs : s.size ≤ 2000) (ha : a < s.size) (hc : isL s[a] = false) (hd : isD s[a] = false) (hq : ((s[a].toNat : Int) == 39) = false)
    (hp : isBars (s.data.toList.drop a) = false) (hg : isS s[a] = false) :
    Calls Tryz.prog 39 #[.string s, .int .i64 (a : Int)] w fun e w' => e = .returned (.agg #[.int .i64 0, .int .i64 0, .string ⟨#[]⟩]) ∧ Below w.heap.size w w' := by
  have h1 := isL_rw hc
  have h1b := isD_rw hd
  have h2 := hasPrefix_rw s a hp
  have HG : Hid (isS s[a] = false) := hg
  clear hc hd hp hg
  go_enter Tryz.func39, Tryz.ntmps39
  go_wp2_with (first | (go_at_call 86; refine (h1 _).mono ?_; rintro e w' ⟨rfl, rfl⟩) | (go_at_call 88; refine (h1b _).mono ?_; rintro e w' ⟨rfl, rfl⟩) | (go_at_call 90; refine (h2 _).mono ?_; rintro e w' ⟨rfl, rfl⟩) | (go_at_call 91; refine (indexByte_rw _ _).mono ?_; rintro e w' ⟨⟨n, rfl, hn⟩, rfl⟩; replace hn : n < 0 := by (have hx := HG.out; rcases Int.lt_or_le n 0 with h | h; exact h; rw [hn.1 h] at hx; cases hx)))
  exact bodyPost_ret (v := .agg #[.int .i64 0, .int .i64 0, .string ⟨#[]⟩]) (by simp [results, Tryz.results39, go_sem]) rfl ⟨rfl, (Below.refl _ _).alloc (Nat.le_refl _) _⟩
def tokL : List UInt8 → Nat × Nat
  | [] => (0, 0)
  | c :: r =>
    if isL c = true then (1, runL isW r + 1)
    else if isD c = true then (2, runL isD r + 1)
    else if c = 39 then (if r[runL isQ r]? = some 39 then (3, runL isQ r + 2) else (0, 0))
    else if isBars (c :: r) = true then (4, 2)
    else if isS c = true then (4, 1)
    else (0, 0)
def nextV (s : ByteArray) (a : Nat) : Value :=
  if (tokL (s.data.toList.drop a)).1 = 0 then .agg #[.int .i64 0, .int .i64 0, .string ⟨#[]⟩]
  else .agg #[.int .i64 ((tokL (s.data.toList.drop a)).1 : Nat), .int .i64 (a : Int), .string (s.extract a (a + (tokL (s.data.toList.drop a)).2))]
theorem u8_39 (c : UInt8) : ((c.toNat : Int) == 39) = decide (c = 39) := by
  rw [Bool.eq_iff_iff]
  simp
  constructor
  · intro h; apply UInt8.toNat_inj.1; simp; omega
  · intro h; subst h; rfl
theorem next_any (s : ByteArray) (a : Nat) (w : World) (hs : s.size ≤ 2000) (ha : a < s.size) :
    Calls Tryz.prog 39 #[.string s, .int .i64 (a : Int)] w fun e w' => e = .returned (nextV s a) ∧ Below w.heap.size w w' := by
  have hd := drop_at s a ha
  have get : ∀ j, (h : j < s.size) → a + 1 ≤ j → (s.data.toList.drop (a + 1))[j - (a + 1)]? = some s[j] := by
    intro j h hj
    rw [List.getElem?_drop, show a + 1 + (j - (a + 1)) = j by omega, List.getElem?_eq_getElem (by simpa using h)]; rfl
  cases hL : isL s[a]
  case true =>
    have e : nextV s a = .agg #[.int .i64 1, .int .i64 (a : Int), .string (s.extract a (spanE isW s a))] := by
      have : spanE isW s a = a + (runL isW (s.data.toList.drop (a + 1)) + 1) := by
        rw [spanE_yes isW s a ha (by simp [isW, hL])]; unfold spanE; omega
      unfold nextV; rw [hd]; simp [tokL, hL, this]
    rw [e]; exact next_name s a w hs ha hL
  case false =>
  cases hD : isD s[a]
  case true =>
    have e : nextV s a = .agg #[.int .i64 2, .int .i64 (a : Int), .string (s.extract a (spanE isD s a))] := by
      have : spanE isD s a = a + (runL isD (s.data.toList.drop (a + 1)) + 1) := by
        rw [spanE_yes isD s a ha hD]; unfold spanE; omega
      unfold nextV; rw [hd]; simp [tokL, hL, hD, this]
    rw [e]; exact next_number s a w hs ha hL hD
  case false =>
  cases hQ : ((s[a].toNat : Int) == 39)
  case true =>
    have hq : s[a] = 39 := by rw [u8_39] at hQ; simpa using hQ
    have l39 : isL 39 = false := by decide
    have d39 : isD 39 = false := by decide
    have hsp : spanE isQ s (a + 1) = a + 1 + runL isQ (s.data.toList.drop (a + 1)) := rfl
    by_cases he : spanE isQ s (a + 1) < s.size
    · have hg := get _ he (spanE_ge isQ s (a + 1))
      rw [show spanE isQ s (a + 1) - (a + 1) = runL isQ (s.data.toList.drop (a + 1)) by omega] at hg
      cases hz : ((s[spanE isQ s (a + 1)].toNat : Int) == 39)
      case true =>
        have hz' : s[spanE isQ s (a + 1)] = 39 := by rw [u8_39] at hz; simpa using hz
        have e : nextV s a = .agg #[.int .i64 3, .int .i64 (a : Int), .string (s.extract a (spanE isQ s (a + 1) + 1))] := by
          have h2 : spanE isQ s (a + 1) + 1 = a + (runL isQ (s.data.toList.drop (a + 1)) + 2) := by omega
          unfold nextV; rw [hd]; simp only [tokL, l39, d39, hq, hg, hz', h2]; rfl
        rw [e]; exact next_text s a w hs ha hL hD hQ he hz
      case false =>
        have hz' : ¬ s[spanE isQ s (a + 1)] = 39 := by rw [u8_39] at hz; simpa using hz
        have e : nextV s a = .agg #[.int .i64 0, .int .i64 0, .string ⟨#[]⟩] := by
          unfold nextV; rw [hd]; simp only [tokL, l39, d39, hq, hg]; simp [hz']
        rw [e]; exact next_broken s a w hs ha hL hD hQ he hz
    · have hg : (s.data.toList.drop (a + 1))[runL isQ (s.data.toList.drop (a + 1))]? = none := by
        rw [List.getElem?_eq_none]; simp; omega
      have e : nextV s a = .agg #[.int .i64 0, .int .i64 0, .string ⟨#[]⟩] := by
        unfold nextV; rw [hd]; simp only [tokL, l39, d39, hq, hg]; simp
      rw [e]; exact next_open s a w hs ha hL hD hQ he
  case false =>
  have hq : ¬ s[a] = 39 := by rw [u8_39] at hQ; simpa using hQ
  cases hP : isBars (s.data.toList.drop a)
  case true =>
    have h2 : a + 2 ≤ s.size := by
      have := List.IsPrefix.length_le (List.isPrefixOf_iff_prefix.1 hP)
      simp at this; omega
    have e : nextV s a = .agg #[.int .i64 4, .int .i64 (a : Int), .string (s.extract a (a + 2))] := by
      rw [hd] at hP
      unfold nextV; rw [hd]; simp [tokL, hL, hD, hq, hP]
    rw [e]; exact next_bars s a w hs h2 hL hD hQ hP
  case false =>
  cases hS : isS s[a]
  case true =>
    have e : nextV s a = .agg #[.int .i64 4, .int .i64 (a : Int), .string (s.extract a (a + 1))] := by
      have hP' := hP
      rw [hd] at hP'
      unfold nextV; rw [hd]; simp [tokL, hL, hD, hq, hP', hS]
    rw [e]; exact next_sign s a w hs ha hL hD hQ hP hS
  case false =>
    have e : nextV s a = .agg #[.int .i64 0, .int .i64 0, .string ⟨#[]⟩] := by
      have hP' := hP
      rw [hd] at hP'
      unfold nextV; rw [hd]; simp [tokL, hL, hD, hq, hP', hS]
    rw [e]; exact next_none s a w hs ha hL hD hQ hP hS
theorem longest_1 (w : World) : Calls Tryz.prog 92 #[.int .i64 1] w fun e w' => e = .returned (.int .i64 12) ∧ w' = w := by
  go_enter Tryz.func92, Tryz.ntmps92
  go_wp2
  go_ret
  exact ⟨rfl, rfl⟩
theorem longest_2 (w : World) : Calls Tryz.prog 92 #[.int .i64 2] w fun e w' => e = .returned (.int .i64 9) ∧ w' = w := by
  go_enter Tryz.func92, Tryz.ntmps92
  go_wp2
  go_ret
  exact ⟨rfl, rfl⟩
theorem longest_3 (w : World) : Calls Tryz.prog 92 #[.int .i64 3] w fun e w' => e = .returned (.int .i64 22) ∧ w' = w := by
  go_enter Tryz.func92, Tryz.ntmps92
  go_wp2
  go_ret
  exact ⟨rfl, rfl⟩
theorem longest_4 (w : World) : Calls Tryz.prog 92 #[.int .i64 4] w fun e w' => e = .returned (.int .i64 2) ∧ w' = w := by
  go_enter Tryz.func92, Tryz.ntmps92
  go_wp2
  go_ret
  exact ⟨rfl, rfl⟩
theorem fault_0 (A : Int) (t : ByteArray) (w : World) :
    Calls Tryz.prog 40 #[.agg #[.int .i64 0, .int .i64 A, .string t]] w fun e w' => e = .returned (.int .i64 1) ∧ Below w.heap.size w w' := by
  go_enter Tryz.func40, Tryz.ntmps40
  go_wp2
  go_ret
  exact ⟨rfl, (Below.refl _ _).alloc (Nat.le_refl _) _⟩
theorem fault_1_many (A : Int) (t : ByteArray) (w : World) (hs : t.size ≤ 2000) (hl : 12 < t.size) :
    Calls Tryz.prog 40 #[.agg #[.int .i64 1, .int .i64 A, .string t]] w fun e w' => e = .returned (.int .i64 2) ∧ Below w.heap.size w w' := by
  go_enter Tryz.func40, Tryz.ntmps40
  go_wp2
  go_quiet ((go_at_call 92; exact Calls.quiet_of_same (longest_1 _)))
  go_wp2
  go_ret
  exact ⟨rfl, below_drewN ((Below.refl _ _).alloc (Nat.le_refl _) _) _⟩
theorem fault_1_ok (A : Int) (t : ByteArray) (w : World) (hs : t.size ≤ 2000) (hl : t.size ≤ 12) :
    Calls Tryz.prog 40 #[.agg #[.int .i64 1, .int .i64 A, .string t]] w fun e w' => e = .returned (.int .i64 0) ∧ Below w.heap.size w w' := by
  go_enter Tryz.func40, Tryz.ntmps40
  go_wp2
  go_quiet ((go_at_call 92; exact Calls.quiet_of_same (longest_1 _)))
  go_wp2
  go_ret
  exact ⟨rfl, below_drewN ((Below.refl _ _).alloc (Nat.le_refl _) _) _⟩
theorem fault_2_many (A : Int) (t : ByteArray) (w : World) (hs : t.size ≤ 2000) (hl : 9 < t.size) :
    Calls Tryz.prog 40 #[.agg #[.int .i64 2, .int .i64 A, .string t]] w fun e w' => e = .returned (.int .i64 2) ∧ Below w.heap.size w w' := by
  go_enter Tryz.func40, Tryz.ntmps40
  go_wp2
  go_quiet ((go_at_call 92; exact Calls.quiet_of_same (longest_2 _)))
  go_wp2
  go_ret
  exact ⟨rfl, below_drewN ((Below.refl _ _).alloc (Nat.le_refl _) _) _⟩
theorem fault_2_one (A : Int) (t : ByteArray) (w : World) (hs : t.size ≤ 2000) (hl : t.size ≤ 1) :
    Calls Tryz.prog 40 #[.agg #[.int .i64 2, .int .i64 A, .string t]] w fun e w' => e = .returned (.int .i64 0) ∧ Below w.heap.size w w' := by
  go_enter Tryz.func40, Tryz.ntmps40
  go_wp2
  go_quiet ((go_at_call 92; exact Calls.quiet_of_same (longest_2 _)))
  go_wp2
  go_ret
  exact ⟨rfl, below_drewN ((Below.refl _ _).alloc (Nat.le_refl _) _) _⟩
theorem fault_2_nought (A : Int) (t : ByteArray) (w : World) (hs : t.size ≤ 2000) (hl : t.size ≤ 9) (h1 : 1 < t.size) (hz : ((t[0].toNat : Int) == 48) = true) :
    Calls Tryz.prog 40 #[.agg #[.int .i64 2, .int .i64 A, .string t]] w fun e w' => e = .returned (.int .i64 1) ∧ Below w.heap.size w w' := by
  go_enter Tryz.func40, Tryz.ntmps40
  go_wp2
  go_quiet ((go_at_call 92; exact Calls.quiet_of_same (longest_2 _)))
  go_wp2
  go_ret
  exact ⟨rfl, below_drewN ((Below.refl _ _).alloc (Nat.le_refl _) _) _⟩
theorem fault_2_ok (A : Int) (t : ByteArray) (w : World) (hs : t.size ≤ 2000) (hl : t.size ≤ 9) (h1 : 1 < t.size) (hz : ((t[0].toNat : Int) == 48) = false) :
    Calls Tryz.prog 40 #[.agg #[.int .i64 2, .int .i64 A, .string t]] w fun e w' => e = .returned (.int .i64 0) ∧ Below w.heap.size w w' := by
  go_enter Tryz.func40, Tryz.ntmps40
  go_wp2
  go_quiet ((go_at_call 92; exact Calls.quiet_of_same (longest_2 _)))
  go_wp2
  go_ret
  exact ⟨rfl, below_drewN ((Below.refl _ _).alloc (Nat.le_refl _) _) _⟩
theorem fault_3_many (A : Int) (t : ByteArray) (w : World) (hs : t.size ≤ 2000) (hl : 22 < t.size) :
    Calls Tryz.prog 40 #[.agg #[.int .i64 3, .int .i64 A, .string t]] w fun e w' => e = .returned (.int .i64 2) ∧ Below w.heap.size w w' := by
  go_enter Tryz.func40, Tryz.ntmps40
  go_wp2
  go_quiet ((go_at_call 92; exact Calls.quiet_of_same (longest_3 _)))
  go_wp2
  go_ret
  exact ⟨rfl, below_drewN ((Below.refl _ _).alloc (Nat.le_refl _) _) _⟩
theorem fault_3_ok (A : Int) (t : ByteArray) (w : World) (hs : t.size ≤ 2000) (hl : t.size ≤ 22) :
    Calls Tryz.prog 40 #[.agg #[.int .i64 3, .int .i64 A, .string t]] w fun e w' => e = .returned (.int .i64 0) ∧ Below w.heap.size w w' := by
  go_enter Tryz.func40, Tryz.ntmps40
  go_wp2
  go_quiet ((go_at_call 92; exact Calls.quiet_of_same (longest_3 _)))
  go_wp2
  go_ret
  exact ⟨rfl, below_drewN ((Below.refl _ _).alloc (Nat.le_refl _) _) _⟩
theorem fault_4_ok (A : Int) (t : ByteArray) (w : World) (hs : t.size ≤ 2000) (hl : t.size ≤ 2) :
    Calls Tryz.prog 40 #[.agg #[.int .i64 4, .int .i64 A, .string t]] w fun e w' => e = .returned (.int .i64 0) ∧ Below w.heap.size w w' := by
  go_enter Tryz.func40, Tryz.ntmps40
  go_wp2
  go_quiet ((go_at_call 92; exact Calls.quiet_of_same (longest_4 _)))
  go_wp2
  go_ret
  exact ⟨rfl, below_drewN ((Below.refl _ _).alloc (Nat.le_refl _) _) _⟩
def wrongL (k : Nat) (l : List UInt8) : Nat :=
  if k = 0 then 1
  else if (k = 1 ∧ 12 < l.length) ∨ (k = 2 ∧ 9 < l.length) ∨ (k = 3 ∧ 22 < l.length) then 2
  else if k = 2 ∧ 1 < l.length ∧ l.head? = some 48 then 1
  else 0
structure Tk where
  k : Int
  a : Int
  t : List UInt8
def Tk.cells (x : Tk) : List Value := [.int .i64 x.k, .int .i64 x.a, .string ⟨x.t.toArray⟩]
def cellsT (l : List Tk) : List Value := l.flatMap Tk.cells
theorem cellsT_snoc (l : List Tk) (x : Tk) : cellsT (l ++ [x]) = cellsT l ++ x.cells := by simp [cellsT]
def scanGo : Nat → Nat → List UInt8 → List Tk → List Tk × Nat × Nat
  | 0, _, _, acc => (acc, 0, 0)
  | _ + 1, _, [], acc => (acc, 0, 0)
  | f + 1, a, c :: r, acc =>
    if isB c = true then scanGo f (a + 1) r acc
    else if wrongL (tokL (c :: r)).1 ((c :: r).take (tokL (c :: r)).2) = 0 then
      scanGo f (a + (tokL (c :: r)).2) ((c :: r).drop (tokL (c :: r)).2) (acc ++ [⟨((tokL (c :: r)).1 : Nat), (a : Nat), (c :: r).take (tokL (c :: r)).2⟩])
    else ([], a, wrongL (tokL (c :: r)).1 ((c :: r).take (tokL (c :: r)).2))
def scanL (a : Nat) (l : List UInt8) (acc : List Tk) : List Tk × Nat × Nat := scanGo (l.length + 1) a l acc
theorem tokL_pos (c : UInt8) (r : List UInt8) (h : (tokL (c :: r)).1 ≠ 0) : 1 ≤ (tokL (c :: r)).2 := by
  revert h
  rw [tokL]
  split
  · intro _; simp
  · split
    · intro _; simp
    · split
      · split
        · intro _; simp
        · intro h; exact absurd rfl h
      · split
        · intro _; simp
        · split
          · intro _; simp
          · intro h; exact absurd rfl h
theorem tokL_le (l : List UInt8) : (tokL l).2 ≤ l.length := by
  cases l with
  | nil => simp [tokL]
  | cons c r =>
    have h1 := runL_le isW r
    have h2 := runL_le isD r
    have h3 := runL_le isQ r
    rw [tokL]
    split
    · simp; omega
    · split
      · simp; omega
      · split
        · split
          · rename_i h
            have : runL isQ r < r.length := by
              rcases Nat.lt_or_ge (runL isQ r) r.length with g | g
              · exact g
              · rw [List.getElem?_eq_none g] at h; cases h
            simp; omega
          · simp
        · split
          · rename_i h
            have := List.IsPrefix.length_le (List.isPrefixOf_iff_prefix.1 h)
            simpa using this
          · split
            · simp
            · simp
theorem tokL_kind (l : List UInt8) : (tokL l).1 ≤ 4 ∧ ((tokL l).1 = 4 → (tokL l).2 ≤ 2) := by
  cases l with
  | nil => simp [tokL]
  | cons c r =>
    rw [tokL]
    split
    · simp
    · split
      · simp
      · split
        · split
          · simp
          · simp
        · split
          · simp
          · split
            · simp
            · simp
theorem wrongL_zero {k : Nat} {l : List UInt8} (h : wrongL k l = 0) : k ≠ 0 := by
  intro e; subst e; simp [wrongL] at h
theorem scanGo_fuel (f : Nat) : ∀ (g a : Nat) (l : List UInt8) (acc : List Tk), l.length < f → l.length < g → scanGo f a l acc = scanGo g a l acc := by
  induction f with
  | zero => intro g a l acc h; omega
  | succ f ih =>
    intro g a l acc hf hg
    cases g with
    | zero => omega
    | succ g =>
      cases l with
      | nil => rfl
      | cons c r =>
        simp only [List.length_cons] at hf hg
        unfold scanGo
        split
        · exact ih g (a + 1) r acc (by omega) (by omega)
        · split
          · rename_i h
            have := tokL_pos c r (wrongL_zero h)
            exact ih g _ _ _ (by simp only [List.length_drop, List.length_cons]; omega) (by simp only [List.length_drop, List.length_cons]; omega)
          · rfl
theorem scanL_nil (a : Nat) (acc : List Tk) : scanL a [] acc = (acc, 0, 0) := rfl
theorem scanL_blank (a : Nat) (c : UInt8) (r : List UInt8) (acc : List Tk) (h : isB c = true) : scanL a (c :: r) acc = scanL (a + 1) r acc := by
  unfold scanL; rw [scanGo, if_pos h]; rfl
theorem scanL_tok (a : Nat) (c : UInt8) (r : List UInt8) (acc : List Tk) (h : isB c = false) (hw : wrongL (tokL (c :: r)).1 ((c :: r).take (tokL (c :: r)).2) = 0) :
    scanL a (c :: r) acc = scanL (a + (tokL (c :: r)).2) ((c :: r).drop (tokL (c :: r)).2) (acc ++ [⟨((tokL (c :: r)).1 : Nat), (a : Nat), (c :: r).take (tokL (c :: r)).2⟩]) := by
  have := tokL_pos c r (wrongL_zero hw)
  unfold scanL; rw [scanGo, if_neg (by simp [h]), if_pos hw]
  exact scanGo_fuel _ _ _ _ _ (by simp only [List.length_drop, List.length_cons]; omega) (by omega)
theorem scanL_bad (a : Nat) (c : UInt8) (r : List UInt8) (acc : List Tk) (h : isB c = false) (hw : wrongL (tokL (c :: r)).1 ((c :: r).take (tokL (c :: r)).2) ≠ 0) :
    scanL a (c :: r) acc = ([], a, wrongL (tokL (c :: r)).1 ((c :: r).take (tokL (c :: r)).2)) := by
  unfold scanL; rw [scanGo, if_neg (by simp [h]), if_neg hw]
theorem scanL_blanks (l : List UInt8) : ∀ (a : Nat) (acc : List Tk), scanL a l acc = scanL (a + runL isB l) (l.drop (runL isB l)) acc := by
  induction l with
  | nil => intro a acc; rfl
  | cons c r ih =>
    intro a acc
    rw [runL_cons]
    split
    · rename_i h; rw [scanL_blank a c r acc h, ih (a + 1) acc, List.drop_succ_cons]; congr 1; omega
    · rfl
def scanS (s : List UInt8) : List Tk × Nat × Nat := if 2000 < s.length then ([], 0, 2) else scanL 0 s []
theorem fault_any (k : Nat) (A : Int) (t : ByteArray) (w : World) (hs : t.size ≤ 2000) (hk : k ≤ 4) (h4 : k = 4 → t.size ≤ 2) :
    Calls Tryz.prog 40 #[.agg #[.int .i64 (k : Int), .int .i64 A, .string t]] w fun e w' => e = .returned (.int .i64 (wrongL k t.data.toList : Nat)) ∧ Below w.heap.size w w' := by
  have hl : t.data.toList.length = t.size := by simp
  match k, hk, h4 with
  | 0, _, _ => exact fault_0 A t w
  | 1, _, _ =>
    by_cases h : 12 < t.size
    · rw [show wrongL 1 t.data.toList = 2 by simp [wrongL, h]]; exact fault_1_many A t w hs h
    · rw [show wrongL 1 t.data.toList = 0 by simp [wrongL]; omega]; exact fault_1_ok A t w hs (by omega)
  | 2, _, _ =>
    by_cases h : 9 < t.size
    · rw [show wrongL 2 t.data.toList = 2 by simp [wrongL, h]]; exact fault_2_many A t w hs h
    · by_cases h1 : 1 < t.size
      · have hh : t.data.toList.head? = some t[0] := by
          rw [List.head?_eq_getElem?, List.getElem?_eq_getElem (by simp; omega)]; rfl
        cases hz : ((t[0].toNat : Int) == 48)
        · have hz' : ¬ t[0] = 48 := by
            intro e; rw [e] at hz; revert hz; decide
          rw [show wrongL 2 t.data.toList = 0 by unfold wrongL; rw [hh]; simp [h, hz']]; exact fault_2_ok A t w hs (by omega) h1 hz
        · have hz' : t[0] = 48 := by
            apply UInt8.toNat_inj.1; have := eq_of_beq hz; simp; omega
          rw [show wrongL 2 t.data.toList = 1 by unfold wrongL; rw [hh]; simp [h, h1, hz']]; exact fault_2_nought A t w hs (by omega) h1 hz
      · rw [show wrongL 2 t.data.toList = 0 by simp [wrongL, h, h1]]; exact fault_2_one A t w hs (by omega)
  | 3, _, _ =>
    by_cases h : 22 < t.size
    · rw [show wrongL 3 t.data.toList = 2 by simp [wrongL, h]]; exact fault_3_many A t w hs h
    · rw [show wrongL 3 t.data.toList = 0 by simp [wrongL, h]]; exact fault_3_ok A t w hs (by omega)
  | 4, _, h4 => rw [show wrongL 4 t.data.toList = 0 by simp [wrongL]]; exact fault_4_ok A t w hs (h4 rfl)
theorem Tryz.info34 : (Tryz.prog.info? 63).map (fun i => (i.zero, i.size, i.bytes)) = some (some (.agg #[.int .i64 0, .int .i64 0, .string ⟨#[]⟩]), 3, 32) := by kernel_rfl
theorem scan_long (s : ByteArray) (w : World) (hs : 2000 < s.size) (hm : s.size ≤ 9223372036854775000) :
    Calls Tryz.prog 15 #[.string s] w fun e w' => e = .returned (.tuple #[.slice none 0 0, .int .i64 0, .int .i64 2]) ∧ w' = w := by
  go_enter Tryz.func15, Tryz.ntmps15
  go_wp2
  go_ret3
  exact ⟨rfl, rfl⟩
theorem scan_here (s : ByteArray) (k : Nat) (acc : List Tk) (K N : Nat) (h : k < s.size) (hp : tokL (s.data.toList.drop k) = (K, N)) (hB : isB s[k] = false) :
    (wrongL K ((s.data.toList.drop k).take N) = 0 → scanL k (s.data.toList.drop k) acc = scanL (k + N) (s.data.toList.drop (k + N)) (acc ++ [⟨(K : Nat), (k : Nat), (s.data.toList.drop k).take N⟩])) ∧
    (wrongL K ((s.data.toList.drop k).take N) ≠ 0 → scanL k (s.data.toList.drop k) acc = ([], k, wrongL K ((s.data.toList.drop k).take N))) := by
  have hd := drop_at s k h
  rw [hd] at hp ⊢
  constructor
  · intro hw
    have := scanL_tok k s[k] (s.data.toList.drop (k + 1)) acc hB (by rw [hp]; exact hw)
    rw [this, hp, ← hd, List.drop_drop]
  · intro hw
    have := scanL_bad k s[k] (s.data.toList.drop (k + 1)) acc hB (by rw [hp]; exact hw)
    rw [this, hp]
theorem scan_skip (s : ByteArray) (k : Nat) (acc : List Tk) : scanL k (s.data.toList.drop k) acc = scanL (spanE isB s k) (s.data.toList.drop (spanE isB s k)) acc := by
  rw [scanL_blanks, List.drop_drop]; rfl
theorem span_stops (p : UInt8 → Bool) (s : ByteArray) (k : Nat) (h : spanE p s k < s.size) : p s[spanE p s k] = false := by
  have hh : ∀ (l : List UInt8) (x : UInt8), l[runL p l]? = some x → p x = false := by
    intro l
    induction l with
    | nil => intro x h; simp at h
    | cons c r ih =>
      intro x h
      rw [runL_cons] at h
      by_cases hc : p c = true
      · rw [if_pos hc] at h; exact ih x (by simpa using h)
      · rw [if_neg hc] at h; simp at h; subst h; simpa using hc
  apply hh (s.data.toList.drop k)
  rw [List.getElem?_drop, List.getElem?_eq_getElem (by simpa [spanE] using h)]; rfl
theorem owns_below {w w' : World} {base : Nat} {e : TypeId} {size : Nat} {v : Value} {n : Nat} {xs : List Value} (h : w.ownsRow base e size v n xs) (hb : Below w.heap.size w w') : w'.ownsRow base e size v n xs :=
  h.kept (row := none) ⟨hb.os, hb.tape, hb.output, hb.size, fun k hk _ => hb.block k hk⟩ (by cases hv : v.ownBlock <;> simp)
theorem span_parts_at (s : ByteArray) (a : Nat) (i : Int) (w : World) (hi : i = (a : Int)) (hs : s.size ≤ 9223372036854775000) (ha : a ≤ s.size) :
    Calls Tryz.prog 37 #[.string s, .int .i64 i, .func (.func 38) #[] #[]] w fun e w' => e = .returned (.int .i64 (spanE isB s a : Nat)) ∧ w' = w := by
  subst hi; exact span_parts s a w hs ha
theorem cell_grown {w w' : World} {row : Option Nat} (hg : w.grownBy w' row) {b o : Nat} (hb : b < w.heap.size) (hr : some b ≠ row) : w'.cell? ⟨b, o, none⟩ = w.cell? ⟨b, o, none⟩ :=
  World.cell?_of_block (w := w) (hg.block b hb hr)
theorem cell_old {w : World} (o : Obj) {b i : Nat} (h : b < w.heap.size) : (w.alloc o).cell? ⟨b, i, none⟩ = w.cell? ⟨b, i, none⟩ :=
  ((Below.refl w.heap.size w).alloc (Nat.le_refl _) o).cell (p := ⟨b, i, none⟩) h
theorem scan_short (s : ByteArray) (w : World) (hs : s.size ≤ 2000) :
    Calls Tryz.prog 15 #[.string s] w fun e w' => ∃ v, e = .returned (.tuple #[v, .int .i64 ((scanL 0 s.data.toList []).2.1 : Nat), .int .i64 ((scanL 0 s.data.toList []).2.2 : Nat)]) ∧
      w'.ownsRow w.heap.size 63 3 v (scanL 0 s.data.toList []).1.length (cellsT (scanL 0 s.data.toList []).1) ∧ Below w.heap.size w w' := by
  obtain ⟨i0, hi, hz0, hz1, hz2⟩ := info_parts Tryz.info34
  have hbs : decide ((2000 : Int) < (s.size : Int)) = false := by simp; omega
  have hb0 := spanE_le isB s 0 (by omega)
  have hst := scan_skip s 0 []
  simp only [List.drop_zero] at hst
  have HS : Hid (scanL 0 s.data.toList [] = scanL (spanE isB s 0) (List.drop (spanE isB s 0) s.data.toList) []) := hst
  clear hst
  have HT : Hid (∀ h : spanE isB s 0 < s.size, isB s[spanE isB s 0] = false) := span_stops isB s 0
  go_enter Tryz.func15, Tryz.ntmps15
  go_wp2_with (go_at_call 37; refine (span_parts s 0 _ (by omega) (by omega)).mono ?_; rintro e w' ⟨rfl, hw'⟩; obtain rfl := hw'.symm; clear hw')
  go_loopw [5, 6] (fun v i wr => ∃ (k : Nat) (acc : List Tk), k ≤ s.size ∧ i = .int .i64 k ∧ wr.ownsRow w.heap.size 63 3 v acc.length (cellsT acc) ∧ Below w.heap.size w wr ∧ acc.length ≤ k ∧
      Hid (scanL k (s.data.toList.drop k) acc = scanL 0 s.data.toList []) ∧ Hid ((h : k < s.size) → isB s[k] = false)) (fun _ i _ => s.size - (intOf i).toNat)
  case atStart =>
    exact ⟨_, [], hb0, rfl, World.ownsRow_nil _ _ _ _, Below.refl _ _, Nat.zero_le _, HS.out.symm, HT⟩
  case round =>
    obtain ⟨k, acc, hk, rfl, hown, hnx, hacc, HE, HB⟩ := hrel
    clear HS HT hb0
    by_cases hlt : k < s.size
    · have hsz := hnx.size
      obtain ⟨K, N, hp⟩ : ∃ K N, tokL (s.data.toList.drop k) = (K, N) := ⟨_, _, rfl⟩
      have hk4 := (tokL_kind (s.data.toList.drop k)).1
      have hk5 := (tokL_kind (s.data.toList.drop k)).2
      have hnl := tokL_le (s.data.toList.drop k)
      have hn := next_any s k wr hs hlt
      obtain ⟨g0, g1⟩ := scan_here s k acc K N hlt hp (HB.out hlt)
      rw [HE.out] at g0 g1
      have hpos : K ≠ 0 → 1 ≤ N := by
        have := tokL_pos s[k] (s.data.toList.drop (k + 1))
        rw [← drop_at s k hlt, hp] at this; exact this
      rw [nextV, hp] at hn
      rw [hp] at hk4 hk5 hnl
      simp only [List.length_drop] at hnl hk4 hk5
      have hnl' : N ≤ s.size - k := by simpa using hnl
      clear hnl hp HB HE
      by_cases hK : K = 0
      · subst hK
        simp only [if_true] at hn
        have G := g1 (by simp [wrongL])
        have HG : Hid (scanL 0 s.data.toList [] = ([], k, 1)) := G.trans (by simp [wrongL])
        clear G g0 g1 hk5 hpos hk4 hnl'
        go_wp2_with (first | (go_at_call 39; refine hn.mono ?_; rintro e w1 ⟨rfl, hb1⟩) | (go_at_call 40; refine (fault_0 _ _ _).mono ?_; rintro e w2 ⟨rfl, hb2⟩))
        go_ret3
        refine ⟨.slice none 0 0, by rw [HG.out]; rfl, by rw [HG.out]; exact World.ownsRow_nil _ _ _ _, ?_⟩
        exact hnx.trans ((((hb1.mono hsz).alloc (by have := hb1.size; omega) _).trans (hb2.mono (by have := hb1.size; simp; omega))))
      · simp only [hK, if_false] at hn
        obtain ⟨T, hT⟩ : ∃ T, T = s.extract k (k + N) := ⟨_, rfl⟩
        have hTs : T.size = N := by rw [hT]; simp; omega
        have hTl : T.data.toList = (s.data.toList.drop k).take N := by rw [hT, Lib.extract_data]; congr 1; omega
        rw [← hT] at hn
        rw [← hTl] at g0 g1
        have hf := fun (A : Int) (W : World) => fault_any K A T W (by omega) hk4 (by omega)
        obtain ⟨E, hE⟩ : ∃ E, wrongL K T.data.toList = E := ⟨_, rfl⟩
        rw [hE] at g0 g1 hf
        have hN1 := hpos hK
        clear hE hT hTl hpos hk5 hK
        have HT : Hid (T.size = N) := hTs
        have hTs2 : T.size ≤ s.size - k := by omega
        have hTs1 : 1 ≤ T.size := by omega
        clear hTs
        by_cases hE0 : E = 0
        · subst hE0
          have g0' : Hid (scanL 0 s.data.toList [] = scanL (k + N) (s.data.toList.drop (k + N)) (acc ++ [⟨(K : Nat), (k : Nat), T.data.toList⟩])) := g0 rfl
          clear g0 g1
          go_wp2_with (first | (go_at_call 39; refine hn.mono ?_; rintro e w1 ⟨rfl, hb1⟩) | (go_at_call 40; refine (hf _ _).mono ?_; rintro e w2 ⟨rfl, hb2⟩; have c0 : w2.cell? ⟨w1.heap.size, 0, none⟩ = some (.int .i64 (K : Nat)) := (hb2.cell (by simp)).trans (by simp); have c1 : w2.cell? ⟨w1.heap.size, 1, none⟩ = some (.int .i64 (k : Nat)) := (hb2.cell (by simp)).trans (by simp); have c2 : w2.cell? ⟨w1.heap.size, 2, none⟩ = some (.string T) := (hb2.cell (by simp)).trans (by simp)) | (at_builtin; refine wpList_append_own _ rfl _ _ 40 rfl w.heap.size 63 i0 (.agg #[.int .i64 0, .int .i64 0, .string ⟨#[]⟩]) 3 32 Tryz.underlying40 hi hz0 hz1 hz2 rfl (by decide) _ _ _ rfl ((owns_below ((owns_below hown hb1).alloc _) hb2).alloc _) ⟨w2.heap.size, 0, none⟩ 1 1 [.int .i64 (K : Nat), .int .i64 (k : Nat), .string T] rfl rfl ?c1 ?c2 ?c3 ?c4 ?c5 ?_))
          case c1 =>
            intro j u hj
            match j, hj with
            | 0, hj => simp at hj; subst hj; simp [Addr.add]
            | 1, hj => simp at hj; subst hj; simp [Addr.add]
            | 2, hj => simp at hj; subst hj; simp [Addr.add]
          case c2 => intro u hu; simp at hu; rcases hu with rfl | rfl | rfl <;> rfl
          case c3 => unfold maxLen; omega
          case c4 => omega
          case c5 => have := hb1.size; have := hb2.size; simp at this ⊢; omega
          intro v' w3 hown' hgrow _
          have s1 := hb1.size
          have s2 : w1.heap.size + 1 ≤ w2.heap.size := by have := hb2.size; simpa using this
          have hlt5 := hown.lt
          have hc3 : w3.cell? ⟨w1.heap.size, 2, none⟩ = some (.string T) := (cell_grown hgrow (by simp; omega) (by intro e; have := (hlt5 _ e.symm).2; omega)).trans ((cell_old _ (by omega)).trans c2)
          have hB3 : Below w.heap.size w w3 := (((hnx.trans (((hb1.mono hsz).alloc (by omega) _).trans (hb2.mono (by simp; omega)))).alloc (by omega) _).grown hgrow (by simp; omega) (fun j hj => (hlt5 j hj).1))
          have hle := spanE_le isB s (k + N) (by omega)
          have hge := spanE_ge isB s (k + N)
          have R1 : Hid (scanL (spanE isB s (k + N)) (s.data.toList.drop (spanE isB s (k + N))) (acc ++ [⟨(K : Nat), (k : Nat), T.data.toList⟩]) = scanL 0 s.data.toList []) := ((g0'.out).trans (scan_skip s (k + N) _)).symm
          have R2 : Hid (∀ h : spanE isB s (k + N) < s.size, isB s[spanE isB s (k + N)] = false) := span_stops isB s (k + N)
          have R3 : w3.ownsRow w.heap.size 63 3 v' (acc ++ [(⟨(K : Nat), (k : Nat), T.data.toList⟩ : Tk)]).length (cellsT (acc ++ [⟨(K : Nat), (k : Nat), T.data.toList⟩])) := by
            rw [cellsT_snoc, List.length_append]; exact hown'
          clear hown' hgrow hown g0' c0 c1 c2 hb1 hb2 hn hf hlt5
          go_wp2_with (go_at_call 37; refine (span_parts_at s (k + N) _ _ (by have := HT.out; omega) (by omega) (by omega)).mono ?_; rintro e w' ⟨rfl, hw'⟩; obtain rfl := hw'.symm; clear hw')
          go_roundw
          case rel => exact ⟨spanE isB s (k + N), _, hle, rfl, R3, hB3, by simp; omega, R1, R2⟩
          case measure => simp [intOf]; omega
        · have hEb : ((E : Int) != 0) = true := by simp; omega
          have HG : Hid (scanL 0 s.data.toList [] = ([], k, E)) := g1 hE0
          clear g0 g1 hE0
          go_wp2_with (first | (go_at_call 39; refine hn.mono ?_; rintro e w1 ⟨rfl, hb1⟩) | (go_at_call 40; refine (hf _ _).mono ?_; rintro e w2 ⟨rfl, hb2⟩))
          go_ret3
          refine ⟨.slice none 0 0, by rw [HG.out]; rfl, by rw [HG.out]; exact World.ownsRow_nil _ _ _ _, ?_⟩
          exact hnx.trans ((((hb1.mono hsz).alloc (by have := hb1.size; omega) _).trans (hb2.mono (by have := hb1.size; simp; omega))))
    · have hks : k = s.size := by omega
      have hd : s.data.toList.drop k = [] := List.drop_eq_nil_of_le (by simp; omega)
      have HG : Hid (scanL 0 s.data.toList [] = (acc, 0, 0)) := by rw [← HE.out, hd]; rfl
      clear hd hks HE HB
      go_wp2
      go_ret3
      exact ⟨_, by rw [HG.out]; rfl, by rw [HG.out]; exact hown, hnx⟩
theorem Tryz.infoB5 : (Tryz.prog.info? 5).map (fun i => (i.zero, i.size, i.bytes)) = some (some (.int .u8 0), 1, 1) := by kernel_rfl
theorem Tryz.sizeB45 : (Tryz.prog.info? 71).map (·.size) = some 2 := by kernel_rfl
theorem Tryz.liesB45 : liesAt Tryz.prog Tryz.prog.depth 71 (2 / Tryz.prog.cellsOf 71) 0 71 1 = true := by kernel_rfl
theorem copyCheck_used (b : Nat) (w : World) (h0 : w.cell? ⟨b, 0, none⟩ = some (.pointer (some ⟨b, 0, none⟩))) :
    Calls Tryz.prog 93 #[.pointer (some ⟨b, 0, none⟩)] w fun e w' => e = .returned (.tuple #[]) ∧ w' = w := by
  obtain ⟨j, hj, _⟩ := Option.map_eq_some_iff.1 Tryz.sizeB45
  go_enter Tryz.func93, Tryz.ntmps93
  go_wp2
  rw [Lib.run_neq_ptr_same w _ Tryz.underlying68 hj]
  go_wp2
  go_end0
  exact ⟨rfl, rfl⟩
theorem copyCheck_fresh (b : Nat) (w : World) (h0 : w.cell? ⟨b, 0, none⟩ = some (.pointer none)) (hsh : w.shape? b = some (71, 2)) (hfz : w.frozen? ⟨b, 0, none⟩ = false) :
    Calls Tryz.prog 93 #[.pointer (some ⟨b, 0, none⟩)] w fun e w' => e = .returned (.tuple #[]) ∧ w' = w.setCell ⟨b, 0, none⟩ (.pointer (some ⟨b, 0, none⟩)) := by
  obtain ⟨j, hj, hjs⟩ := Option.map_eq_some_iff.1 Tryz.sizeB45
  go_enter Tryz.func93, Tryz.ntmps93
  go_wp2
  rw [Lib.run_to_unsafe w ⟨b, 0, none⟩ Tryz.underlying68 Tryz.underlying132 hj (by rw [hjs]; decide) hsh (Nat.zero_lt_succ 1)]
  simp only [Result.andThen]
  rw [Oper.upon_value]
  go_wp2
  rw [run_callFunc_extern Tryz.func133 (by kernel_rfl) (by kernel_rfl) (by kernel_rfl) (e := Extern.AbiNoEscape.same) (by kernel_rfl)]
  rw [Lib.run_noEscape]
  simp only [Result.andThen]
  rw [Oper.upon_value]
  go_wp2
  rw [Lib.run_from_unsafe w ⟨b, 0, none⟩ Tryz.underlying132 Tryz.underlying68 hj hsh Tryz.liesB45]
  simp only [Result.andThen]
  rw [Oper.upon_value]
  go_wp2
  go_end0
  exact ⟨rfl, rfl⟩
theorem copyCheck_any (B b : Nat) (bs : List Value) (w : World) (h : Lib.IsBuilder 71 5 B b bs w) :
    Calls Tryz.prog 93 #[.pointer (some ⟨b, 0, none⟩)] w fun e w' => e = .returned (.tuple #[]) ∧ Lib.BuilderAt 71 5 B b (.pointer (some ⟨b, 0, none⟩)) bs w' ∧ Below B w w' ∧ Lib.OthersKept 5 (some b) w w' := by
  rcases h with h | h
  · refine (copyCheck_fresh b w h.cell0 h.shape h.frozen0).mono ?_
    rintro e w' ⟨rfl, rfl⟩
    exact ⟨rfl, h.used _, (Below.refl B w).setCell (p := ⟨b, 0, none⟩) h.1 _, (Lib.OthersKept.refl 5 (some b) w).setCell ⟨b, 0, none⟩ rfl _⟩
  · refine (copyCheck_used b w h.cell0).mono ?_
    rintro e w' ⟨rfl, rfl⟩
    exact ⟨rfl, h, Below.refl B _, Lib.OthersKept.refl 5 (some b) _⟩
theorem ownsRow_kind {w : World} {B : Nat} {e : TypeId} {v : Value} {n : Nat} {xs : List Value} (h : w.ownsRow B e 1 v n xs) : ∀ g, v.ownBlock = some g → ∃ c fz, w.heap[g]? = some (.cells c e fz) := by
  intro g hg
  rcases h.2 with ⟨rfl, _⟩ | ⟨g', cap, cur, rfl, _, hgg, _⟩
  · simp [Value.ownBlock] at hg
  · simp [Value.ownBlock] at hg
    subst hg
    exact ⟨cur, _, hgg⟩
theorem writeByte_any (B b : Nat) (bs : List Value) (c : Int) (w : World) (h : Lib.IsBuilder 71 5 B b bs w) (hlen : bs.length + 1 ≤ 140737488355328) (hBw : B ≤ w.heap.size) :
    Calls Tryz.prog 42 #[.pointer (some ⟨b, 0, none⟩), .int .u8 c] w fun e w' => e = .returned .nilIface ∧ Lib.BuilderAt 71 5 B b (.pointer (some ⟨b, 0, none⟩)) (bs ++ [.int .u8 c]) w' ∧ Below B w w' ∧ Lib.OthersKept 5 (some b) w w' := by
  obtain ⟨i0, hi, hz0, hz1, hz2⟩ := info_parts Tryz.infoB5
  go_enter Tryz.func42, Tryz.ntmps42
  go_wp2_with (go_at_call 93; refine (copyCheck_any B b bs _ h).mono ?_)
  rintro e w1 ⟨rfl, h1, hb1, ho1⟩
  obtain ⟨hB, v, hbk, hown, hne⟩ := h1
  have c0 : w1.cell? ⟨b, 0, none⟩ = some (.pointer (some ⟨b, 0, none⟩)) := by rw [Lib.cell_of_heap hbk]; rfl
  have c1 : w1.cell? ⟨b, 1, none⟩ = some v := by rw [Lib.cell_of_heap hbk]; rfl
  go_wp2_with (at_builtin; refine wpList_append_own _ rfl _ _ 69 rfl B 5 i0 (.int .u8 0) 1 1 Tryz.underlying69 hi hz0 hz1 hz2 rfl (by decide) _ _ _ rfl (hown.alloc _) ⟨w1.heap.size, 0, none⟩ 1 1 [.int .u8 c] rfl rfl ?c1 ?c2 ?c3 ?c4 ?c5 ?_)
  case c1 =>
    intro j u hj
    match j, hj with
    | 0, hj => simp at hj; subst hj; simp [Addr.add]
  case c2 => intro u hu; simp at hu; subst hu; rfl
  case c3 => unfold maxLen; omega
  case c4 => omega
  case c5 => have := hb1.size; simp; omega
  intro v' w2 hown' hgrow _
  have hlt : b < w1.heap.size := by
    rcases Nat.lt_or_ge b w1.heap.size with h' | h'
    · exact h'
    · simp [Array.getElem?_eq_none h'] at hbk
  have hb2 : w2.heap[b]? = some (.cells #[.pointer (some ⟨b, 0, none⟩), v] 71 (0, 0)) := by
    rw [hgrow.block b (by simp; omega) (fun e => hne e.symm), Lib.alloc_old w1 _ b hlt]
    exact hbk
  have d0 : w2.cell? ⟨b, 0, none⟩ = some (.pointer (some ⟨b, 0, none⟩)) := by rw [Lib.cell_of_heap hb2]; rfl
  have d1 : w2.cell? ⟨b, 1, none⟩ = some v := by rw [Lib.cell_of_heap hb2]; rfl
  have f1 : w2.frozen? ⟨b, 1, none⟩ = false := Lib.frozen_of_heap hb2 1
  obtain ⟨g, cap, rfl⟩ : ∃ g cap, v' = .slice (some ⟨g, 0, none⟩) (bs.length + 1) cap := by
    rcases hown'.2 with ⟨_, h0⟩ | ⟨g, cap, cur, hv, _⟩
    · omega
    · exact ⟨g, cap, hv⟩
  go_wp2
  go_ret
  refine ⟨rfl, ?_, ?_, ?_⟩
  · exact Lib.BuilderAt.put (T := 71) (e := 5) hB hb2 (bs' := bs ++ [.int .u8 c]) (by simpa using hown') (by decide)
  · exact ((hb1.alloc (by have := hb1.size; omega) _).grown hgrow (by have := hb1.size; simp; omega) (fun k hk => (hown.lt k hk).1)).setCell (p := ⟨b, 1, none⟩) hB _
  · exact ((ho1.alloc _).grown hgrow (ownsRow_kind (hown.alloc _))).setCell ⟨b, 1, none⟩ rfl _
theorem writeString_any (B b : Nat) (bs : List Value) (s : ByteArray) (w : World) (h : Lib.IsBuilder 71 5 B b bs w) (hlen : bs.length + s.size ≤ 140737488355328) (hBw : B ≤ w.heap.size) :
    Calls Tryz.prog 43 #[.pointer (some ⟨b, 0, none⟩), .string s] w fun e w' => e = .returned (.tuple #[.int .i64 s.size, .nilIface]) ∧ Lib.BuilderAt 71 5 B b (.pointer (some ⟨b, 0, none⟩)) (bs ++ Lib.strCells s) w' ∧ Below B w w' ∧ Lib.OthersKept 5 (some b) w w' := by
  obtain ⟨i0, hi, hz0, hz1, hz2⟩ := info_parts Tryz.infoB5
  go_enter Tryz.func43, Tryz.ntmps43
  go_wp2_with (go_at_call 93; refine (copyCheck_any B b bs _ h).mono ?_)
  rintro e w1 ⟨rfl, h1, hb1, ho1⟩
  obtain ⟨hB, v, hbk, hown, hne⟩ := h1
  have c0 : w1.cell? ⟨b, 0, none⟩ = some (.pointer (some ⟨b, 0, none⟩)) := by rw [Lib.cell_of_heap hbk]; rfl
  have c1 : w1.cell? ⟨b, 1, none⟩ = some v := by rw [Lib.cell_of_heap hbk]; rfl
  go_wp2_with (at_builtin; refine Lib.wpList_append_own_string _ rfl _ _ 69 9 rfl B 5 i0 Tryz.underlying69 Tryz.underlying9 hi hz0 hz1 hz2 _ _ _ rfl hown s rfl ?c3 ?c4 ?c5 ?_)
  case c3 => unfold maxLen; omega
  case c4 => omega
  case c5 => have := hb1.size; omega
  intro v' w2 hown' hgrow _
  have hlt : b < w1.heap.size := by
    rcases Nat.lt_or_ge b w1.heap.size with h' | h'
    · exact h'
    · simp [Array.getElem?_eq_none h'] at hbk
  have hb2 : w2.heap[b]? = some (.cells #[.pointer (some ⟨b, 0, none⟩), v] 71 (0, 0)) := by
    rw [hgrow.block b hlt (fun e => hne e.symm)]
    exact hbk
  have d0 : w2.cell? ⟨b, 0, none⟩ = some (.pointer (some ⟨b, 0, none⟩)) := by rw [Lib.cell_of_heap hb2]; rfl
  have d1 : w2.cell? ⟨b, 1, none⟩ = some v := by rw [Lib.cell_of_heap hb2]; rfl
  have f1 : w2.frozen? ⟨b, 1, none⟩ = false := Lib.frozen_of_heap hb2 1
  obtain ⟨ao, n', cap, rfl⟩ : ∃ ao n' cap, v' = .slice ao n' cap := by
    rcases hown'.2 with ⟨hv, _⟩ | ⟨g, cap, cur, hv, _⟩
    · exact ⟨_, _, _, hv⟩
    · exact ⟨_, _, _, hv⟩
  go_wp2
  go_ret2
  refine ⟨rfl, ?_, ?_, ?_⟩
  · exact Lib.BuilderAt.put (T := 71) (e := 5) hB hb2 (bs' := bs ++ Lib.strCells s) (by simpa [Lib.strCells_length] using hown') (by decide)
  · exact (hb1.grown hgrow (by have := hb1.size; omega) (fun k hk => (hown.lt k hk).1)).setCell (p := ⟨b, 1, none⟩) hB _
  · exact (ho1.grown hgrow (ownsRow_kind hown)).setCell ⟨b, 1, none⟩ rfl _
theorem owns_slice {w : World} {base : Nat} {e : TypeId} {size : Nat} {v : Value} {n : Nat} {xs : List Value} (h : w.ownsRow base e size v n xs) : ∃ ao cap, v = .slice ao n cap := by
  rcases h.2 with ⟨hv, h0⟩ | ⟨g, cap, cur, hv, _⟩
  · exact ⟨none, 0, by rw [hv, h0]⟩
  · exact ⟨_, _, hv⟩
theorem owns_some {w : World} {base : Nat} {e : TypeId} {size : Nat} {v : Value} {n : Nat} {xs : List Value} (h : w.ownsRow base e size v n xs) (hn : n ≠ 0) : ∃ g cap, v = .slice (some ⟨g, 0, none⟩) n cap ∧ base ≤ g ∧ g < w.heap.size := by
  rcases h.2 with ⟨hv, h0⟩ | ⟨g, cap, cur, hv, hb, hg, _⟩
  · exact absurd h0 hn
  · exact ⟨g, cap, hv, hb, (ltS hg)⟩
theorem scan_any (s : ByteArray) (w : World) (hm : s.size ≤ 9223372036854775000) :
    Calls Tryz.prog 15 #[.string s] w fun e w' => ∃ v, e = .returned (.tuple #[v, .int .i64 ((scanS s.data.toList).2.1 : Nat), .int .i64 ((scanS s.data.toList).2.2 : Nat)]) ∧
      w'.ownsRow w.heap.size 63 3 v (scanS s.data.toList).1.length (cellsT (scanS s.data.toList).1) ∧ Below w.heap.size w w' := by
  have hl : s.data.toList.length = s.size := by simp
  by_cases h : 2000 < s.size
  · refine (scan_long s w h hm).mono ?_
    rintro e w' ⟨rfl, rfl⟩
    have : scanS s.data.toList = ([], 0, 2) := by unfold scanS; rw [if_pos (by omega)]
    rw [this]
    exact ⟨_, rfl, World.ownsRow_nil _ _ _ _, Below.refl _ _⟩
  · have : scanS s.data.toList = scanL 0 s.data.toList [] := by unfold scanS; rw [if_neg (by omega)]
    rw [this]
    exact scan_short s w (by omega)
theorem Tryz.fields34 : (Tryz.prog.fieldsOf 63).toList.map (fun f => (f.name, f.type, f.offset)) = [("Kind", 3, 0), ("At", 3, 1), ("Text", 9, 2)] := by kernel_rfl
theorem Tryz.under34 : Tryz.prog.underlying 63 = some (.struct (Tryz.prog.fieldsOf 63)) := by kernel_rfl
theorem Tryz.stood34 : Tryz.prog.stoodInHeld 63 = false := by kernel_rfl
theorem fields_three {l : List Field} {a b c : String} {i j k m n o : Nat} (h : l.map (fun f => (f.name, f.type, f.offset)) = [(a, i, j), (b, k, m), (c, n, o)]) :
    ∃ f0 f1 f2 : Field, l = [f0, f1, f2] ∧ f0.name = a ∧ f0.type = i ∧ f0.offset = j ∧ f1.name = b ∧ f1.type = k ∧ f1.offset = m ∧ f2.name = c ∧ f2.type = n ∧ f2.offset = o := by
  obtain ⟨f0, l1, rfl, h0, h1⟩ := List.map_eq_cons_iff.1 h
  obtain ⟨f1, l2, rfl, h2, h3⟩ := List.map_eq_cons_iff.1 h1
  obtain ⟨f2, l3, rfl, h4, h5⟩ := List.map_eq_cons_iff.1 h3
  have h6 := List.map_eq_nil_iff.1 h5
  subst h6
  simp only [Prod.mk.injEq] at h0 h2 h4
  exact ⟨f0, f1, f2, rfl, h0.1, h0.2.1, h0.2.2, h2.1, h2.2.1, h2.2.2, h4.1, h4.2.1, h4.2.2⟩
def sameTk (k a : Int) (t : ByteArray) (k' a' : Int) (t' : ByteArray) : Bool := (k == k') && (a == a') && (t.toList == t'.toList)
theorem eql34 (k a k' a' : Int) (t t' : ByteArray) (w : World) :
    (binOp .eql 63 (.agg #[.int .i64 k, .int .i64 a, .string t]) (.agg #[.int .i64 k', .int .i64 a', .string t'])).run Tryz.prog w = .ok (.bool (sameTk k a t k' a' t')) w := by
  rw [run_eql_struct, run_equalIn_struct w 9999 63 _ _ Tryz.under34 Tryz.stood34]
  obtain ⟨f0, f1, f2, hf, n0, t0, o0, n1, t1, o1, n2, t2, o2⟩ := fields_three Tryz.fields34
  rw [hf]
  simp [Op.eqFields, n0, t0, o0, n1, t1, o1, n2, t2, o2, go_sem]
  unfold sameTk
  by_cases h1 : k = k' <;> by_cases h2 : a = a' <;> by_cases h3 : t.toList = t'.toList <;> simp [h1, h2, h3]
def aloneB (K : Int) (l : List UInt8) : Bool :=
  match scanS l with
  | ([x], _, 0) => decide (x.k = K ∧ x.a = 0 ∧ x.t = l)
  | _ => false
theorem alone_err (K A : Int) (t : ByteArray) (w : World) (hm : t.size ≤ 9223372036854775000) (L : List Tk) (at_ E : Nat) (hr : scanS t.data.toList = (L, at_, E)) (hE : E ≠ 0) :
    Calls Tryz.prog 41 #[.agg #[.int .i64 K, .int .i64 A, .string t]] w fun e w' => e = .returned (.bool false) ∧ Below w.heap.size w w' := by
  have hs := fun W => scan_any t W hm
  rw [hr] at hs
  have hEb : ((E : Int) == 0) = false := by simp; omega
  clear hr hE
  go_enter Tryz.func41, Tryz.ntmps41
  go_wp2_with (go_at_call 15; refine (hs _).mono ?_; rintro e w1 ⟨v, rfl, hown, hb1⟩)
  go_quiet (fail)
  go_wp2
  go_ret
  exact ⟨rfl, below_drewN (((Below.refl _ _).alloc (Nat.le_refl _) _).trans (hb1.mono (by simp))) _⟩
theorem alone_many (K A : Int) (t : ByteArray) (w : World) (hm : t.size ≤ 9223372036854775000) (L : List Tk) (at_ : Nat) (hr : scanS t.data.toList = (L, at_, 0)) (hL : L.length ≠ 1) :
    Calls Tryz.prog 41 #[.agg #[.int .i64 K, .int .i64 A, .string t]] w fun e w' => e = .returned (.bool false) ∧ Below w.heap.size w w' := by
  have hs := fun W => scan_any t W hm
  rw [hr] at hs
  have hEb : ((L.length : Int) == 1) = false := by simp; omega
  clear hr hL
  go_enter Tryz.func41, Tryz.ntmps41
  go_wp2_with (go_at_call 15; refine (hs _).mono ?_; rintro e w1 ⟨v, rfl, hown, hb1⟩; obtain ⟨ao, cap, hv⟩ := owns_slice hown; subst hv; clear hown)
  go_quiet (fail)
  go_wp2
  go_ret
  exact ⟨rfl, below_drewN (((Below.refl _ _).alloc (Nat.le_refl _) _).trans (hb1.mono (by simp))) _⟩
theorem alone_one (K A : Int) (t : ByteArray) (w : World) (hm : t.size ≤ 9223372036854775000) (x : Tk) (at_ : Nat) (hr : scanS t.data.toList = ([x], at_, 0)) :
    Calls Tryz.prog 41 #[.agg #[.int .i64 K, .int .i64 A, .string t]] w fun e w' => e = .returned (.bool (decide (x.k = K ∧ x.a = 0 ∧ x.t = t.data.toList))) ∧ Below w.heap.size w w' := by
  have hs := fun W => scan_any t W hm
  rw [hr] at hs
  clear hr
  obtain ⟨xk, xa, xt⟩ := x
  simp only [List.length_cons, List.length_nil, Nat.zero_add, cellsT, List.flatMap_cons, List.flatMap_nil, List.append_nil, Tk.cells] at hs ⊢
  have hq := eql34
  go_enter Tryz.func41, Tryz.ntmps41
  go_wp2_with (go_at_call 15; refine (hs _).mono ?_)
  rintro e w1 ⟨v, rfl, hown, hb1⟩
  obtain ⟨g, cap, hv, hg1, hg2⟩ := owns_some hown (by decide)
  rw [hv] at hown
  have c0 : w1.cell? ⟨g, 0, none⟩ = some (.int .i64 xk) := hown.cellAt 0 (by decide)
  have c1 : w1.cell? ⟨g, 1, none⟩ = some (.int .i64 xa) := hown.cellAt 1 (by decide)
  have c2 : w1.cell? ⟨g, 2, none⟩ = some (.string ⟨xt.toArray⟩) := hown.cellAt 2 (by decide)
  have d0 : w1.cell? ⟨w.heap.size, 0, none⟩ = some (.int .i64 K) := (hb1.cell (by simp)).trans (by simp)
  have d2 : w1.cell? ⟨w.heap.size, 2, none⟩ = some (.string t) := (hb1.cell (by simp)).trans (by simp)
  rw [hv]
  clear hv hown
  go_wp2
  go_quiet (fail)
  go_wp2
  go_ret
  refine ⟨ret_bool ?_, below_drewN (((Below.refl _ _).alloc (Nat.le_refl _) _).trans (hb1.mono (by simp))) _⟩
  unfold sameTk
  rw [show (⟨xt.toArray⟩ : ByteArray).toList = xt by rw [Lib.toList_data], Lib.toList_data, Bool.eq_iff_iff]
  simp [and_assoc]
theorem alone_any (K A : Int) (t : ByteArray) (w : World) (hm : t.size ≤ 9223372036854775000) :
    Calls Tryz.prog 41 #[.agg #[.int .i64 K, .int .i64 A, .string t]] w fun e w' => e = .returned (.bool (aloneB K t.data.toList)) ∧ Below w.heap.size w w' := by
  obtain ⟨L, a, E, hr⟩ : ∃ L a E, scanS t.data.toList = (L, a, E) := ⟨_, _, _, rfl⟩
  by_cases hE : E = 0
  · subst hE
    match L, hr with
    | [x], hr =>
      rw [show aloneB K t.data.toList = decide (x.k = K ∧ x.a = 0 ∧ x.t = t.data.toList) by unfold aloneB; rw [hr]; rfl]
      exact alone_one K A t w hm x a hr
    | [], hr =>
      rw [show aloneB K t.data.toList = false by unfold aloneB; rw [hr]]
      exact alone_many K A t w hm _ a hr (by simp)
    | x :: y :: r, hr =>
      rw [show aloneB K t.data.toList = false by unfold aloneB; rw [hr]]
      exact alone_many K A t w hm _ a hr (by simp)
  · rw [show aloneB K t.data.toList = false by unfold aloneB; rw [hr]; split <;> simp_all]
    exact alone_err K A t w hm L a E hr hE
def joinL : List Tk → List UInt8
  | [] => []
  | [x] => x.t
  | x :: y :: r => x.t ++ 32 :: joinL (y :: r)
theorem joinL_snoc (L : List Tk) (x : Tk) (h : L ≠ []) : joinL (L ++ [x]) = joinL L ++ 32 :: x.t := by
  induction L with
  | nil => exact absurd rfl h
  | cons y r ih =>
    cases r with
    | nil => rfl
    | cons z r =>
      have := ih (by simp)
      simp only [List.cons_append] at this ⊢
      rw [joinL, this, joinL]; simp
def joinS (L : List Tk) : List UInt8 × Nat :=
  if L.all (fun x => aloneB x.k x.t) = true then (if 2000 < (joinL L).length then ([], 2) else (joinL L, 0)) else ([], 1)
theorem size_mk (l : List UInt8) : (⟨l.toArray⟩ : ByteArray).size = l.length := by show l.toArray.size = _; simp
theorem byteCells_append (a b : List UInt8) : Lib.byteCells (a ++ b) = Lib.byteCells a ++ Lib.byteCells b := by simp [Lib.byteCells]
def TokRow (w : World) (b off n : Nat) (L : List Tk) : Prop :=
  L.length = n ∧ ∀ i x, L[i]? = some x → w.cell? ⟨b, off + i * 3, none⟩ = some (.int .i64 x.k) ∧ w.cell? ⟨b, off + i * 3 + 1, none⟩ = some (.int .i64 x.a) ∧ w.cell? ⟨b, off + i * 3 + 2, none⟩ = some (.string ⟨x.t.toArray⟩)
theorem builder_below {T e : TypeId} {B b : Nat} {bs : List Value} {w w' : World} (h : Lib.IsBuilder T e B b bs w) (hb : Below w.heap.size w w') : Lib.IsBuilder T e B b bs w' := by
  have go : ∀ p, Lib.BuilderAt T e B b p bs w → Lib.BuilderAt T e B b p bs w' := by
    rintro p ⟨hB, v, hbk, hown, hne⟩
    exact ⟨hB, v, (hb.block b (ltS hbk)).trans hbk, owns_below hown hb, hne⟩
  rcases h with h | h
  · exact .inl (go _ h)
  · exact .inr (go _ h)
theorem take_snocT (L : List Tk) (k : Nat) (x : Tk) (h : L[k]? = some x) : L.take (k + 1) = L.take k ++ [x] := by
  rw [List.take_succ_eq_append_getElem (List.getElem?_eq_some_iff.1 h).1]
  simp [(List.getElem?_eq_some_iff.1 h).2]
theorem scanGo_len (f : Nat) : ∀ (a : Nat) (l : List UInt8) (acc : List Tk), (∀ x ∈ acc, x.t.length ≤ 22) → ∀ x ∈ (scanGo f a l acc).1, x.t.length ≤ 22 := by
  induction f with
  | zero => intro a l acc h; exact h
  | succ f ih =>
    intro a l acc h
    cases l with
    | nil => exact h
    | cons c r =>
      rw [scanGo]
      split
      · exact ih _ _ _ h
      · split
        · rename_i hw
          apply ih
          intro x hx
          rcases List.mem_append.1 hx with hx | hx
          · exact h x hx
          · simp at hx
            subst hx
            have h4 := tokL_kind (c :: r)
            have hz := wrongL_zero hw
            generalize tokL (c :: r) = p at *
            obtain ⟨K, N⟩ := p
            simp only at *
            unfold wrongL at hw
            simp only [hz, if_false] at hw
            have hN : (List.take N (c :: r)).length ≤ N := List.length_take_le _ _
            generalize List.take N (c :: r) = T at *
            split at hw
            · cases hw
            · rename_i hn
              show T.length ≤ 22
              omega
        · intro x hx; cases hx
theorem alone_len {K : Int} {l : List UInt8} (h : aloneB K l = true) : l.length ≤ 22 := by
  unfold aloneB at h
  split at h
  · rename_i x _ hs
    simp at h
    have hx : ∀ y ∈ (scanS l).1, y.t.length ≤ 22 := by
      unfold scanS
      split
      · intro y hy; cases hy
      · exact scanGo_len _ _ _ _ (by intro y hy; cases hy)
    have := hx x (by rw [hs]; simp)
    rw [h.2.2] at this
    exact this
  · cases h
theorem joinL_len (L : List Tk) (k : Nat) (hk : k ≤ L.length) (h : (L.take k).all (fun x => aloneB x.k x.t) = true) : (joinL (L.take k)).length ≤ 23 * k := by
  induction k with
  | zero => simp [joinL]
  | succ k ih =>
    have hx : L[k]? = some L[k] := List.getElem?_eq_getElem (by omega)
    rw [take_snocT L k _ hx] at h ⊢
    rw [List.all_append, Bool.and_eq_true] at h
    have h1 := ih (by omega) h.1
    have h2 := alone_len (show aloneB L[k].k L[k].t = true by simpa using h.2)
    by_cases e : L.take k = []
    · rw [e]; simp [joinL]; omega
    · rw [joinL_snoc _ _ e]; simp; omega
theorem join_some (b off n cap : Nat) (L : List Tk) (w : World) (hn : 0 < n) (hr : n * 32 ≤ 140737488355328) (hb : b < w.heap.size) (hL : TokRow w b off n L) (ht : ∀ x ∈ L, x.t.length ≤ 9223372036854775000) :
    Calls Tryz.prog 16 #[.slice (some ⟨b, off, none⟩) n cap] w fun e w' => e = .returned (.tuple #[.string ⟨(joinS L).1.toArray⟩, .int .i64 ((joinS L).2 : Nat)]) ∧ Below w.heap.size w w' := by
  obtain ⟨hlen, hcells⟩ := hL
  go_enter Tryz.func16, Tryz.ntmps16
  go_wp2
  go_loopw [9] (fun i wr => ∃ k : Nat, k ≤ n ∧ i = .int .i64 k ∧ Lib.IsBuilder 71 5 w.heap.size w.heap.size (Lib.byteCells (joinL (L.take k))) wr ∧ Below w.heap.size w wr ∧
      Hid ((L.take k).all (fun x => aloneB x.k x.t) = true)) (fun i _ => n - (intOf i).toNat)
  case atStart =>
    exact ⟨0, Nat.zero_le _, rfl, Lib.fresh_isBuilder 71 5 w, (Below.refl _ _).alloc (Nat.le_refl _) _, by simp [Hid]⟩
  case round =>
    obtain ⟨k, hk, rfl, hB, hnx, HA⟩ := hrel
    by_cases hlt : k < n
    · obtain ⟨x, hx⟩ : ∃ x, L[k]? = some x := ⟨L[k], List.getElem?_eq_getElem (by omega)⟩
      obtain ⟨e0, e1, e2⟩ := hcells k x hx
      have a0 := (hnx.cell (p := ⟨b, off + k * 3, none⟩) hb).trans e0
      have a1 := (hnx.cell (p := ⟨b, off + k * 3 + 1, none⟩) hb).trans e1
      have a2 := (hnx.cell (p := ⟨b, off + k * 3 + 2, none⟩) hb).trans e2
      have hal := fun W => alone_any x.k x.a ⟨x.t.toArray⟩ W (by rw [size_mk]; exact ht x (List.mem_of_getElem? hx))
      cases hx1 : aloneB x.k x.t
      · simp only [hx1] at hal
        clear e0 e1 e2 hcells
        go_wp2_with (go_at_call 41; refine (hal _).mono ?_; rintro e w2 ⟨rfl, hb2⟩)
        go_ret2
        have hJ : joinS L = ([], 1) := by
          unfold joinS
          rw [if_neg]
          intro h
          have := List.all_eq_true.1 h x (List.mem_of_getElem? hx)
          rw [hx1] at this; cases this
        rw [hJ]
        exact ⟨rfl, (hnx.alloc hnx.size _).trans (hb2.mono (by have := hnx.size; simp; omega))⟩
      · simp only [hx1] at hal
        clear e0 e1 e2 hcells
        have hsz := hnx.size
        have hsz1 : w.heap.size < wr.heap.size := by rcases hB with h | h <;> exact h.lt
        have HX : Hid (aloneB x.k x.t = true) := hx1
        have HL : Hid (L[k]? = some x) := hx
        have HB := builder_below hB ((Below.refl wr.heap.size wr).alloc (Nat.le_refl _) (.cells #[.int .i64 x.k, .int .i64 x.a, .string ⟨x.t.toArray⟩] 63))
        have hjl := joinL_len L k (by omega) HA.out
        have hxl := alone_len hx1
        have hk1 := take_snocT L k x hx
        clear hx hx1 hB
        have HK : Hid (L.take (k + 1) = L.take k ++ [x]) := hk1
        have HA1 : Hid ((L.take (k + 1)).all (fun x => aloneB x.k x.t) = true) := by
          show (L.take (k + 1)).all (fun x => aloneB x.k x.t) = true
          rw [hk1, List.all_append, HA.out]; simpa using HX.out
        clear hk1 HA
        have hxs := size_mk x.t
        have hjc := Lib.byteCells_length (joinL (L.take k))
        by_cases hk0 : 0 < k
        · go_wp2_with (go_at_call 41; refine (hal _).mono ?_; rintro e w2 ⟨rfl, hb2⟩)
          have hbl : w2.heap[wr.heap.size]? = some (.cells #[.int .i64 x.k, .int .i64 x.a, .string ⟨x.t.toArray⟩] 63 (0, 0)) := (hb2.block _ (by simp)).trans (heap_alloc_new _ _)
          have hs2 : wr.heap.size + 1 ≤ w2.heap.size := by have := hb2.size; simpa using this
          refine (writeByte_any w.heap.size w.heap.size _ 32 _ (builder_below HB hb2) (by rw [hjc]; omega) (by omega)).mono ?_
          rintro e w3 ⟨rfl, h3, hb3, ho3⟩
          have hbl3 := ho3 _ _ hbl (by simp; omega) (by intro c fz; simp)
          have c3 : w3.cell? ⟨wr.heap.size, 2, none⟩ = some (.string ⟨x.t.toArray⟩) := by rw [Lib.cell_of_heap hbl3]; rfl
          have hs3 := hb3.size
          go_wp2_with fail
          refine (writeString_any w.heap.size w.heap.size _ ⟨x.t.toArray⟩ _ (.inr h3) (by simp only [List.length_append, List.length_cons, List.length_nil]; rw [hjc, hxs]; omega) (by omega)).mono ?_
          rintro e w4 ⟨rfl, h4, hb4, ho4⟩
          have R : Lib.IsBuilder 71 5 w.heap.size w.heap.size (Lib.byteCells (joinL (L.take (k + 1)))) w4 := by
            have e : joinL (L.take (k + 1)) = joinL (L.take k) ++ ([32] ++ x.t) := by
              rw [HK.out, joinL_snoc _ _ (by intro h; have := congrArg List.length h; rw [List.length_take, Nat.min_eq_left (by omega)] at this; simp at this; omega)]; rfl
            rw [e, byteCells_append, byteCells_append, ← List.append_assoc]
            exact .inr h4
          have hN4 : Below w.heap.size w w4 := (((hnx.alloc hsz _).trans (hb2.mono (by simp; omega))).trans hb3).trans hb4
          clear h3 h4 hb2 hb3 hb4 ho3 ho4 HB hal hbl hbl3 c3 a0 a1 a2
          go_wp2
          go_roundw
          case rel => exact ⟨k + 1, by omega, by go_num, R, hN4, HA1⟩
          case measure => simp [intOf]; omega
        · go_wp2_with (go_at_call 41; refine (hal _).mono ?_; rintro e w2 ⟨rfl, hb2⟩; have c2 : w2.cell? ⟨wr.heap.size, 2, none⟩ = some (.string ⟨x.t.toArray⟩) := (hb2.cell (by simp)).trans (by simp))
          have hs2 : wr.heap.size + 1 ≤ w2.heap.size := by have := hb2.size; simpa using this
          refine (writeString_any w.heap.size w.heap.size _ ⟨x.t.toArray⟩ _ (builder_below HB hb2) (by rw [hjc, hxs]; omega) (by omega)).mono ?_
          rintro e w4 ⟨rfl, h4, hb4, ho4⟩
          have R : Lib.IsBuilder 71 5 w.heap.size w.heap.size (Lib.byteCells (joinL (L.take (k + 1)))) w4 := by
            have e : joinL (L.take (k + 1)) = x.t := by
              rw [HK.out, show k = 0 by omega]; rfl
            have e0 : joinL (L.take k) = [] := by rw [show k = 0 by omega]; rfl
            rw [e0] at h4
            rw [e]
            exact .inr h4
          have hN4 : Below w.heap.size w w4 := ((hnx.alloc hsz _).trans (hb2.mono (by simp; omega))).trans hb4
          clear h4 hb2 hb4 ho4 HB hal c2 a0 a1 a2
          go_wp2
          go_roundw
          case rel => exact ⟨k + 1, by omega, by go_num, R, hN4, HA1⟩
          case measure => simp [intOf]; omega
    · have hkn : k = n := by omega
      have HJ : Hid (L.take k = L) := List.take_of_length_le (by omega)
      have HJ2 : Hid (joinS L = if 2000 < (joinL L).length then ([], 2) else (joinL L, 0)) := by
        show joinS L = _
        unfold joinS
        rw [if_pos]
        have := HA.out
        rw [HJ.out] at this; exact this
      have hB' := hB
      rw [HJ.out] at hB'
      clear hB HA hcells
      have hjl : (joinL L).length = (joinL L).length := rfl
      by_cases h2 : 2000 < (joinL L).length
      · have hlen2 := Tryz.Builder_Len w.heap.size w.heap.size _ wr hB'
        rw [Lib.byteCells_length] at hlen2
        clear hkn hjl
        go_wp2_with (go_at_call 44; refine hlen2.mono ?_; rintro e w' ⟨rfl, hw'⟩; obtain rfl := hw'.symm; clear hw')
        go_ret2
        rw [HJ2.out, if_pos h2]
        exact ⟨rfl, hnx⟩
      · have hlen2 := Tryz.Builder_Len w.heap.size w.heap.size _ wr hB'
        rw [Lib.byteCells_length] at hlen2
        clear hkn hjl
        go_wp2_with (first | (go_at_call 44; refine hlen2.mono ?_; rintro e w' ⟨rfl, hw'⟩; obtain rfl := hw'.symm; clear hw') | (go_at_call 45; refine (Tryz.Builder_String_any w.heap.size w.heap.size (joinL L) _ hB' (by exact hnx.size)).mono ?_; rintro e w5 ⟨rfl, hb5⟩))
        go_ret2
        rw [HJ2.out, if_neg h2]
        exact ⟨rfl, hnx.trans hb5⟩
def placesL (s : List UInt8) : Nat → List Tk → Prop
  | _, [] => True
  | p, x :: r => ∃ A : Nat, x.a = (A : Int) ∧ p ≤ A ∧ 1 ≤ x.t.length ∧ A + x.t.length ≤ s.length ∧ x.t = (s.drop A).take x.t.length ∧ placesL s (A + x.t.length) r
theorem placesL_mono (s : List UInt8) (p q : Nat) (h : q ≤ p) (L : List Tk) (hL : placesL s p L) : placesL s q L := by
  cases L with
  | nil => trivial
  | cons x r => obtain ⟨A, h1, h2, h3⟩ := hL; exact ⟨A, h1, by omega, h3⟩
theorem scanGo_places (s : List UInt8) (f : Nat) : ∀ (a : Nat) (l : List UInt8) (acc : List Tk), a ≤ s.length → l = s.drop a → (scanGo f a l acc).2.2 = 0 → ∃ new, (scanGo f a l acc).1 = acc ++ new ∧ placesL s a new := by
  induction f with
  | zero => intro a l acc _ _ _; exact ⟨[], by simp [scanGo], trivial⟩
  | succ f ih =>
    intro a l acc ha hl h0
    cases l with
    | nil => exact ⟨[], by simp [scanGo], trivial⟩
    | cons c r =>
      have hlen : (c :: r).length = s.length - a := by rw [hl]; simp
      simp only [List.length_cons] at hlen
      have hr : r = s.drop (a + 1) := by rw [← List.drop_drop, ← hl]; rfl
      rw [scanGo] at h0 ⊢
      by_cases hb : isB c = true
      · rw [if_pos hb] at h0 ⊢
        obtain ⟨new, h1, h2⟩ := ih (a + 1) r acc (by omega) hr h0
        exact ⟨new, h1, placesL_mono s _ _ (by omega) new h2⟩
      · rw [if_neg hb] at h0 ⊢
        by_cases hw : wrongL (tokL (c :: r)).1 ((c :: r).take (tokL (c :: r)).2) = 0
        · rw [if_pos hw] at h0 ⊢
          have hpos := tokL_pos c r (wrongL_zero hw)
          have hle := tokL_le (c :: r)
          generalize tokL (c :: r) = p at *
          obtain ⟨K, N⟩ := p
          simp only [List.length_cons] at *
          obtain ⟨new, h1, h2⟩ := ih (a + N) _ _ (by omega) (by rw [hl, List.drop_drop]) h0
          have hT : ((c :: r).take N).length = N := by rw [List.length_take, List.length_cons]; omega
          refine ⟨⟨(K : Nat), (a : Nat), (c :: r).take N⟩ :: new, by rw [h1]; simp, a, rfl, Nat.le_refl _, ?_, ?_, ?_, ?_⟩
          · show 1 ≤ ((c :: r).take N).length; omega
          · show a + ((c :: r).take N).length ≤ s.length; omega
          · show (c :: r).take N = (s.drop a).take ((c :: r).take N).length; rw [hT, ← hl]
          · show placesL s (a + ((c :: r).take N).length) new; rw [hT]; exact h2
        · rw [if_neg hw] at h0
          exact absurd h0 hw
theorem hide {p : Prop} (h : p) : Hid p := h
theorem u8_is (c d : UInt8) : ((c.toNat : Int) == (d.toNat : Int)) = decide (c = d) := by
  rw [Bool.eq_iff_iff]
  simp only [beq_iff_eq, decide_eq_true_eq]
  constructor
  · intro h; apply UInt8.toNat_inj.1; omega
  · intro h; rw [h]
theorem isBars_cons (c : UInt8) (r : List UInt8) : isBars (c :: r) = (decide (c = 124) && decide (r.head? = some 124)) := by
  unfold isBars Lib.hasPrefix
  cases r with
  | nil => simp [List.isPrefixOf]
  | cons d r => simp [List.isPrefixOf]; rw [Bool.eq_iff_iff]; simp [eq_comm (a := (124 : UInt8))]
theorem isB_cases {c : UInt8} (h : isB c = true) : ((c.toNat : Int) == 32) = true ∨ (((c.toNat : Int) == 32) = false ∧ ((c.toNat : Int) == 9) = true) ∨ (((c.toNat : Int) == 32) = false ∧ ((c.toNat : Int) == 9) = false ∧ ((c.toNat : Int) == 10) = true) := by
  unfold isB at h
  cases h1 : ((c.toNat : Int) == 32) <;> cases h2 : ((c.toNat : Int) == 9) <;> cases h3 : ((c.toNat : Int) == 10) <;> simp_all
theorem isB_not {c : UInt8} (h : isB c = false) : ((c.toNat : Int) == 32) = false ∧ ((c.toNat : Int) == 9) = false ∧ ((c.toNat : Int) == 10) = false := by
  unfold isB at h
  cases h1 : ((c.toNat : Int) == 32) <;> cases h2 : ((c.toNat : Int) == 9) <;> cases h3 : ((c.toNat : Int) == 10) <;> simp_all
def isTokB (K : Int) (l : List UInt8) : Bool := decide (l ≠ [] ∧ l.length ≤ 2000 ∧ ((tokL l).1 : Int) = K ∧ (tokL l).2 = l.length ∧ wrongL (tokL l).1 l = 0)
theorem tokL_blank (c : UInt8) (r : List UInt8) (h : isB c = true) : tokL (c :: r) = (0, 0) := by
  have hc : c = 32 ∨ c = 9 ∨ c = 10 := by
    rcases isB_cases h with h | ⟨_, h⟩ | ⟨_, _, h⟩
    · left; apply UInt8.toNat_inj.1; have := eq_of_beq h; simp; omega
    · right; left; apply UInt8.toNat_inj.1; have := eq_of_beq h; simp; omega
    · right; right; apply UInt8.toNat_inj.1; have := eq_of_beq h; simp; omega
  rcases hc with rfl | rfl | rfl
  all_goals
    rw [tokL, if_neg (by decide), if_neg (by decide), if_neg (by decide), if_neg (by rw [isBars_cons]; simp), if_neg (by decide)]
theorem isTok_iff (K : Int) (l : List UInt8) : aloneB K l = isTokB K l := by
  rw [Bool.eq_iff_iff]
  constructor
  · intro h
    have hlen := alone_len h
    unfold aloneB at h
    split at h
    · rename_i x p hs
      simp only [decide_eq_true_eq] at h
      obtain ⟨hk, ha, ht⟩ := h
      cases l with
      | nil => simp [scanS, scanL, scanGo] at hs
      | cons c r =>
        have hs' : scanL 0 (c :: r) [] = ([x], p, 0) := by
          have : scanS (c :: r) = scanL 0 (c :: r) [] := by unfold scanS; rw [if_neg (by omega)]
          rw [← this]; exact hs
        cases hB : isB c
        · by_cases hw : wrongL (tokL (c :: r)).1 ((c :: r).take (tokL (c :: r)).2) = 0
          · have h1 := scanL_tok 0 c r [] hB hw
            have hle := tokL_le (c :: r)
            rw [hs'] at h1
            obtain ⟨new, h2, _⟩ := scanGo_places (c :: r) _ (0 + (tokL (c :: r)).2) _ ([] ++ [⟨((tokL (c :: r)).1 : Nat), ((0 : Nat) : Int), (c :: r).take (tokL (c :: r)).2⟩]) (by omega) (by rw [Nat.zero_add]) (by unfold scanL at h1; rw [← h1])
            have h3 : ([x] : List Tk) = [⟨((tokL (c :: r)).1 : Nat), ((0 : Nat) : Int), (c :: r).take (tokL (c :: r)).2⟩] ++ new := by
              have := congrArg Prod.fst h1
              unfold scanL at this
              rw [h2] at this
              simpa using this
            simp only [List.cons_append, List.nil_append, List.cons.injEq] at h3
            obtain ⟨rfl, _⟩ := h3
            simp only at hk ht
            have hN : (tokL (c :: r)).2 = (c :: r).length := by
              have := congrArg List.length ht
              rw [List.length_take] at this; omega
            rw [ht] at hw
            simp only [isTokB, decide_eq_true_eq]
            exact ⟨by simp, by omega, hk, hN, hw⟩
          · have h1 := scanL_bad 0 c r [] hB hw
            rw [hs'] at h1
            simp at h1
        · have h1 := scanL_blank 0 c r [] hB
          rw [hs'] at h1
          obtain ⟨new, h2, h3⟩ := scanGo_places (c :: r) (r.length + 1) 1 r [] (by simp) rfl (by unfold scanL at h1; rw [← h1])
          have h4 : ([x] : List Tk) = new := by
            have := congrArg Prod.fst h1
            unfold scanL at this
            rw [h2] at this
            simpa using this
          subst h4
          obtain ⟨A, e1, e2, _⟩ := h3
          rw [ha] at e1
          omega
    · cases h
  · intro h
    simp only [isTokB, decide_eq_true_eq] at h
    obtain ⟨h0, hlen, hk, hN, hw⟩ := h
    cases l with
    | nil => exact absurd rfl h0
    | cons c r =>
      have hB : isB c = false := by
        cases hB : isB c
        · rfl
        · rw [tokL_blank c r hB] at hw; simp [wrongL] at hw
      have h1 := scanL_tok 0 c r [] hB (by rw [hN, List.take_of_length_le (Nat.le_refl _)]; exact hw)
      rw [hN, List.take_of_length_le (Nat.le_refl _), List.drop_eq_nil_of_le (Nat.le_refl _), scanL_nil] at h1
      unfold aloneB
      rw [show scanS (c :: r) = scanL 0 (c :: r) [] by unfold scanS; rw [if_neg (by omega)], h1]
      simp [hk]
theorem mk_append (a b : List UInt8) : ((⟨a.toArray⟩ : ByteArray) ++ ⟨b.toArray⟩) = ⟨(a ++ b).toArray⟩ := by
  apply ByteArray.ext
  simp
def quotB (S : List UInt8) : Bool := decide (S.length ≤ 20) && S.all isQ
theorem runL_quot (S : List UInt8) (h : S.all isQ = true) : runL isQ (S ++ [39]) = S.length := by
  induction S with
  | nil => rfl
  | cons c r ih =>
    rw [List.all_cons, Bool.and_eq_true] at h
    rw [List.cons_append, runL_cons, if_pos h.1, ih h.2]; rfl
theorem runL_quot_lt (S : List UInt8) (h : S.all isQ = false) : runL isQ (S ++ [39]) < S.length := by
  induction S with
  | nil => cases h
  | cons c r ih =>
    rw [List.cons_append, runL_cons]
    by_cases hc : isQ c = true
    · rw [if_pos hc]
      rw [List.all_cons, hc, Bool.true_and] at h
      have := ih h
      simp only [List.length_cons]; omega
    · rw [if_neg hc]; simp
theorem quot_alone (S : List UInt8) : aloneB 3 (39 :: (S ++ [39])) = quotB S := by
  rw [isTok_iff, Bool.eq_iff_iff]
  have l39 : isL 39 = false := by decide
  have d39 : isD 39 = false := by decide
  have hlen : (39 :: (S ++ [39])).length = S.length + 2 := by simp
  simp only [isTokB, quotB, decide_eq_true_eq, Bool.and_eq_true]
  cases hA : S.all isQ
  · have hlt := runL_quot_lt S hA
    constructor
    · rintro ⟨_, _, h3, h4, _⟩
      rw [tokL, if_neg (by simp [l39]), if_neg (by simp [d39]), if_pos rfl] at h3 h4
      split at h3
      · rename_i hz
        rw [if_pos hz] at h4
        simp only at h4
        omega
      · simp at h3
    · rintro ⟨_, h⟩; cases h
  · have hrun := runL_quot S hA
    have hz : (S ++ [39])[runL isQ (S ++ [39])]? = some 39 := by rw [hrun, List.getElem?_append_right (by omega)]; simp
    have ht : tokL (39 :: (S ++ [39])) = (3, S.length + 2) := by
      rw [tokL, if_neg (by simp [l39]), if_neg (by simp [d39]), if_pos rfl, if_pos hz, hrun]
    rw [ht]
    simp only [hlen]
    constructor
    · rintro ⟨_, _, _, _, hw⟩
      refine ⟨?_, trivial⟩
      rcases Nat.lt_or_ge 20 S.length with h | h
      · have : wrongL 3 (39 :: (S ++ [39])) = 2 := by
          unfold wrongL
          rw [hlen, if_neg (by omega), if_pos (by omega)]
        rw [this] at hw; cases hw
      · exact h
    · rintro ⟨h, _⟩
      refine ⟨by simp, by omega, rfl, trivial, ?_⟩
      unfold wrongL
      simp only [hlen]
      rw [if_neg (by omega), if_neg (by omega), if_neg (by omega)]
theorem quot_join (S : List UInt8) (a : Int) : (joinS [⟨3, a, 39 :: (S ++ [39])⟩]).2 = if quotB S = true then 0 else 1 := by
  unfold joinS
  have e : ([⟨3, a, 39 :: (S ++ [39])⟩] : List Tk).all (fun x => aloneB x.k x.t) = quotB S := by simp [quot_alone]
  rw [e]
  by_cases h : quotB S = true
  · rw [if_pos h, if_pos h]
    have : ¬ 2000 < (joinL [⟨3, a, 39 :: (S ++ [39])⟩]).length := by
      simp only [quotB, Bool.and_eq_true, decide_eq_true_eq] at h
      simp [joinL]; omega
    rw [if_neg this]
  · rw [if_neg h, if_neg h]
def isInt (n : Int) : Bool := decide ((-999999999 : Int) ≤ n) && decide (n ≤ 999999999)
theorem isInt_any (n : Int) (w : World) :
    Calls Tryz.prog 158 #[.int .i64 n] w fun e w' => e = .returned (.bool (isInt n)) ∧ w' = w := by
  go_enter Tryz.func158, Tryz.ntmps158
  go_wp2
  all_goals go_ret
  all_goals exact ⟨ret_bool (by simp [isInt, *] <;> omega), rfl⟩
theorem quoted (s : ByteArray) : ((⟨#[39]⟩ : ByteArray) ++ s ++ ⟨#[39]⟩) = ⟨(39 :: (s.data.toList ++ [39])).toArray⟩ := by
  obtain ⟨⟨l⟩⟩ := s
  have := mk_append ([39] ++ l) [39]
  rw [← mk_append] at this
  simpa using this
theorem quot_row (s : ByteArray) (w : World) : TokRow (w.alloc (.cells #[.int .i64 3, .int .i64 0, .string ((⟨#[39]⟩ : ByteArray) ++ s ++ ⟨#[39]⟩)] 63)) w.heap.size 0 1 [⟨3, 0, 39 :: (s.data.toList ++ [39])⟩] := by
  refine ⟨rfl, ?_⟩
  intro i x hx
  match i, hx with
  | 0, hx =>
    simp only [List.getElem?_cons_zero, Option.some.injEq] at hx
    subst hx
    rw [quoted]
    refine ⟨by simp, by simp, by simp⟩
theorem quot_call (s : ByteArray) (w : World) (hs : s.size ≤ 140737488355328) :
    Calls Tryz.prog 16 #[.slice (some ⟨w.heap.size, 0, none⟩) 1 1] (w.alloc (.cells #[.int .i64 3, .int .i64 0, .string ((⟨#[39]⟩ : ByteArray) ++ s ++ ⟨#[39]⟩)] 63)) fun e w' =>
      (∃ S : List UInt8, e = .returned (.tuple #[.string ⟨S.toArray⟩, .int .i64 ((if quotB s.data.toList = true then 0 else 1 : Nat) : Int)])) ∧ Below w.heap.size w w' := by
  have hsz : s.data.toList.length = s.size := by simp
  refine (join_some w.heap.size 0 1 1 [⟨3, 0, 39 :: (s.data.toList ++ [39])⟩] _ (by decide) (by decide) (by simp) (quot_row s w) (by intro x hx; simp at hx; subst hx; simp; omega)).mono ?_
  rintro e w' ⟨rfl, hb⟩
  rw [quot_join]
  exact ⟨⟨_, rfl⟩, ((Below.refl _ _).alloc (Nat.le_refl _) _).trans (hb.mono (by simp))⟩
theorem isQuot_any (s : ByteArray) (w : World) (hs : s.size ≤ 140737488355328) :
    Calls Tryz.prog 159 #[.string s] w fun e w' => e = .returned (.bool (quotB s.data.toList)) ∧ Below w.heap.size w w' := by
  have hj := quot_call s w hs
  cases hq : quotB s.data.toList
  all_goals
    rw [hq] at hj
    clear hq
    go_enter Tryz.func159, Tryz.ntmps159
    go_wp2_with (go_at_call 16; refine hj.mono ?_; rintro e w' ⟨⟨S, rfl⟩, hb⟩)
    go_ret
    exact ⟨rfl, hb⟩
def chkV (K N : Int) (S : List UInt8) : Nat :=
  if K = 0 then (if N = 0 ∧ S = [] then 0 else 3)
  else if K = 1 then (if isInt N = true ∧ S = [] then 0 else 3)
  else if K = 2 then (if N = 0 ∧ quotB S = true then 0 else 3)
  else if K = 3 then (if (N = 0 ∨ N = 1) ∧ S = [] then 0 else 3)
  else 7
theorem empty_iff (s : ByteArray) : s.toList.isEmpty = decide (s.data.toList = []) := by
  rw [Lib.toList_data]; cases s.data.toList <;> simp
theorem check_0 (N : Int) (s : ByteArray) (w : World) :
    Calls Tryz.prog 124 #[.agg #[.int .i64 0, .int .i64 N, .string s]] w fun e w' => e = .returned (.int .i64 ((if (N == 0) = true ∧ s.toList.isEmpty = true then 0 else 3 : Nat) : Int)) ∧ Below w.heap.size w w' := by
  cases h1 : (N == 0) <;> cases h2 : s.toList.isEmpty
  all_goals
    go_enter Tryz.func124, Tryz.ntmps124
    go_wp2
    go_ret
    exact ⟨rfl, (Below.refl _ _).alloc (Nat.le_refl _) _⟩
theorem check_1 (N : Int) (s : ByteArray) (w : World) :
    Calls Tryz.prog 124 #[.agg #[.int .i64 1, .int .i64 N, .string s]] w fun e w' => e = .returned (.int .i64 ((if isInt N = true ∧ s.toList.isEmpty = true then 0 else 3 : Nat) : Int)) ∧ Below w.heap.size w w' := by
  have hi := isInt_any N
  cases h1 : isInt N <;> cases h2 : s.toList.isEmpty
  all_goals
    rw [h1] at hi
    clear h1
    go_enter Tryz.func124, Tryz.ntmps124
    go_wp2_with (go_at_call 158; refine (hi _).mono ?_; rintro e w' ⟨rfl, hw'⟩; obtain rfl := hw'.symm; clear hw')
    go_ret
    exact ⟨rfl, (Below.refl _ _).alloc (Nat.le_refl _) _⟩
theorem check_2 (N : Int) (s : ByteArray) (w : World) (hs : s.size ≤ 140737488355328) :
    Calls Tryz.prog 124 #[.agg #[.int .i64 2, .int .i64 N, .string s]] w fun e w' => e = .returned (.int .i64 ((if (N == 0) = true ∧ quotB s.data.toList = true then 0 else 3 : Nat) : Int)) ∧ Below w.heap.size w w' := by
  have hi := fun W => isQuot_any s W hs
  cases h1 : (N == 0) <;> cases h2 : quotB s.data.toList
  all_goals
    rw [h2] at hi
    clear h2
    go_enter Tryz.func124, Tryz.ntmps124
    go_wp2_with (go_at_call 159; refine (hi _).mono ?_; rintro e w' ⟨rfl, hb⟩)
    go_ret
    first
      | exact ⟨rfl, (Below.refl _ _).alloc (Nat.le_refl _) _⟩
      | exact ⟨rfl, ((Below.refl _ _).alloc (Nat.le_refl _) _).trans (hb.mono (by simp))⟩
theorem check_3 (N : Int) (s : ByteArray) (w : World) :
    Calls Tryz.prog 124 #[.agg #[.int .i64 3, .int .i64 N, .string s]] w fun e w' => e = .returned (.int .i64 ((if ((N == 0) = true ∨ (N == 1) = true) ∧ s.toList.isEmpty = true then 0 else 3 : Nat) : Int)) ∧ Below w.heap.size w w' := by
  cases h1 : (N == 0) <;> cases h3 : (N == 1) <;> cases h2 : s.toList.isEmpty
  all_goals
    go_enter Tryz.func124, Tryz.ntmps124
    go_wp2
    go_ret
    exact ⟨rfl, (Below.refl _ _).alloc (Nat.le_refl _) _⟩
theorem check_other (K N : Int) (s : ByteArray) (w : World) (h0 : (K == 0) = false) (h1 : (K == 1) = false) (h2 : (K == 2) = false) (h3 : (K == 3) = false) :
    Calls Tryz.prog 124 #[.agg #[.int .i64 K, .int .i64 N, .string s]] w fun e w' => e = .returned (.int .i64 7) ∧ Below w.heap.size w w' := by
  go_enter Tryz.func124, Tryz.ntmps124
  go_wp2
  go_ret
  exact ⟨rfl, (Below.refl _ _).alloc (Nat.le_refl _) _⟩
theorem check_any (K N : Int) (s : ByteArray) (w : World) (hs : s.size ≤ 140737488355328) :
    Calls Tryz.prog 124 #[.agg #[.int .i64 K, .int .i64 N, .string s]] w fun e w' => e = .returned (.int .i64 (chkV K N s.data.toList : Nat)) ∧ Below w.heap.size w w' := by
  by_cases h0 : K = 0
  · subst h0
    have := check_0 N s w
    simp only [empty_iff, beq_iff_eq, decide_eq_true_eq] at this
    simpa only [chkV, if_true] using this
  by_cases h1 : K = 1
  · subst h1
    have := check_1 N s w
    simp only [empty_iff, decide_eq_true_eq] at this
    simpa [chkV] using this
  by_cases h2 : K = 2
  · subst h2
    have := check_2 N s w hs
    simp only [beq_iff_eq] at this
    simpa [chkV] using this
  by_cases h3 : K = 3
  · subst h3
    have := check_3 N s w
    simp only [empty_iff, beq_iff_eq, decide_eq_true_eq] at this
    simpa [chkV] using this
  rw [show chkV K N s.data.toList = 7 by simp [chkV, h0, h1, h2, h3]]
  exact check_other K N s w (by simp [h0]) (by simp [h1]) (by simp [h2]) (by simp [h3])
structure Vl where
  k : Int
  n : Int
  s : List UInt8
inductive Ex where
  | mk (k : Int) (v : Vl) (name : List UInt8) (args : List Ex)
structure Cl where
  name : List UInt8
  ty : Int
structure Cm where
  kind : Int
  name : List UInt8
  other : List UInt8
  column : List UInt8
  cols : List Cl
  ty : Int
  val : Vl
  vals : List Vl
  fields : List (List UInt8)
  expr : Ex
  all : Bool
  wh : Ex
  order : List UInt8
  limit : Int
def vl0 : Vl := ⟨0, 0, []⟩
def ex0 : Ex := .mk 0 vl0 [] []
def cm0 : Cm := ⟨0, [], [], [], [], 0, vl0, [], [], ex0, false, ex0, [], 0⟩
abbrev w_create : List UInt8 := [99, 114, 101, 97, 116, 101]
abbrev w_table : List UInt8 := [116, 97, 98, 108, 101]
abbrev w_drop : List UInt8 := [100, 114, 111, 112]
abbrev w_alter : List UInt8 := [97, 108, 116, 101, 114]
abbrev w_add : List UInt8 := [97, 100, 100]
abbrev w_default : List UInt8 := [100, 101, 102, 97, 117, 108, 116]
abbrev w_rename : List UInt8 := [114, 101, 110, 97, 109, 101]
abbrev w_to : List UInt8 := [116, 111]
abbrev w_retype : List UInt8 := [114, 101, 116, 121, 112, 101]
abbrev w_index : List UInt8 := [105, 110, 100, 101, 120]
abbrev w_on : List UInt8 := [111, 110]
abbrev w_insert : List UInt8 := [105, 110, 115, 101, 114, 116]
abbrev w_into : List UInt8 := [105, 110, 116, 111]
abbrev w_values : List UInt8 := [118, 97, 108, 117, 101, 115]
abbrev w_delete : List UInt8 := [100, 101, 108, 101, 116, 101]
abbrev w_from : List UInt8 := [102, 114, 111, 109]
abbrev w_where : List UInt8 := [119, 104, 101, 114, 101]
abbrev w_update : List UInt8 := [117, 112, 100, 97, 116, 101]
abbrev w_set : List UInt8 := [115, 101, 116]
abbrev w_select : List UInt8 := [115, 101, 108, 101, 99, 116]
abbrev w_order : List UInt8 := [111, 114, 100, 101, 114]
abbrev w_by : List UInt8 := [98, 121]
abbrev w_limit : List UInt8 := [108, 105, 109, 105, 116]
abbrev w_begin : List UInt8 := [98, 101, 103, 105, 110]
abbrev w_commit : List UInt8 := [99, 111, 109, 109, 105, 116]
abbrev w_rollback : List UInt8 := [114, 111, 108, 108, 98, 97, 99, 107]
abbrev w_int : List UInt8 := [105, 110, 116]
abbrev w_text : List UInt8 := [116, 101, 120, 116]
abbrev w_bool : List UInt8 := [98, 111, 111, 108]
abbrev w_true : List UInt8 := [116, 114, 117, 101]
abbrev w_false : List UInt8 := [102, 97, 108, 115, 101]
abbrev w_null : List UInt8 := [110, 117, 108, 108]
abbrev w_not : List UInt8 := [110, 111, 116]
abbrev w_is : List UInt8 := [105, 115]
abbrev w_and : List UInt8 := [97, 110, 100]
abbrev w_or : List UInt8 := [111, 114]
def takenL : List (List UInt8) := [w_create, w_table, w_drop, w_alter, w_add, w_default, w_rename, w_to, w_retype, w_index, w_on, w_insert, w_into, w_values, w_delete, w_from, w_where, w_update, w_set, w_select, w_order, w_by, w_limit, w_begin, w_commit, w_rollback, w_int, w_text, w_bool, w_true, w_false, w_null, w_not, w_is, w_and, w_or]
def typesL : List (List UInt8) := [[], w_int, w_text, w_bool]
def opersL : List (List UInt8) := [[], [], [], [], [], w_and, w_or, [43], [45], [124, 124], [60], [61]]
def nameW (s : List UInt8) : Bool := aloneB 1 s && !takenL.contains s
def placeL (l : List (List UInt8)) (s : List UInt8) : Nat := (l.idxOf? s).getD 0
def atL (l : List (List UInt8)) (k : Int) : List UInt8 := if k < 0 then [] else l.getD k.toNat []
inductive Rs (α : Type) where
  | ok (a : α) (i : Nat)
  | bad (i : Nat)
def Rs.then {α β : Type} (r : Rs α) (f : α → Nat → Rs β) : Rs β :=
  match r with
  | .ok a i => f a i
  | .bad i => .bad i
@[simp] theorem Rs.then_ok {α β : Type} (a : α) (i : Nat) (f : α → Nat → Rs β) : (Rs.ok a i).then f = f a i := rfl
@[simp] theorem Rs.then_bad {α β : Type} (i : Nat) (f : α → Nat → Rs β) : (Rs.bad i : Rs α).then f = .bad i := rfl
def tx (T : List Tk) (i : Nat) : List UInt8 := match T[i]? with | some t => t.t | none => []
def kd (T : List Tk) (i : Nat) : Int := match T[i]? with | some t => t.k | none => 0
def pl (T : List Tk) (en : Int) (i : Nat) : Int := match T[i]? with | some t => t.a | none => en
def must (T : List Tk) : List (List UInt8) → Nat → Rs Unit
  | [], i => .ok () i
  | w :: ws, i => if tx T i = w then must T ws (i + 1) else .bad i
def may (T : List Tk) (first : List UInt8) (others : List (List UInt8)) (i : Nat) : Rs Bool :=
  if tx T i = first then (must T others (i + 1)).then fun _ j => .ok true j else .ok false i
def oneOf (T : List Tk) : List (List UInt8) → Nat → Rs (List UInt8)
  | [], i => .bad i
  | w :: ws, i => if tx T i = w then .ok w (i + 1) else oneOf T ws i
def kindOf (T : List Tk) (f : List UInt8 → Nat) (i : Nat) : Rs Nat := if f (tx T i) = 0 then .bad i else .ok (f (tx T i)) (i + 1)
def nameP (T : List Tk) (i : Nat) : Rs (List UInt8) := if nameW (tx T i) = true then .ok (tx T i) (i + 1) else .bad i
def decN (l : List UInt8) : Nat := l.foldl (fun n c => 10 * n + (c.toNat - 48)) 0
def numberP (T : List Tk) (least : Nat) (i : Nat) : Rs Nat := if kd T i = 2 ∧ least ≤ decN (tx T i) then .ok (decN (tx T i)) (i + 1) else .bad i
def columnP (T : List Tk) (i : Nat) : Rs Cl := (nameP T i).then fun s j => (kindOf T (placeL typesL) j).then fun k j => .ok ⟨s, (k : Nat)⟩ j
def valueP (T : List Tk) (i : Nat) : Rs Vl :=
  if kd T i = 2 then (numberP T 0 i).then fun n j => .ok ⟨1, (n : Nat), []⟩ j
  else if kd T i = 3 then .ok ⟨2, 0, ((tx T i).drop 1).take ((tx T i).length - 2)⟩ (i + 1)
  else (oneOf T [[45], w_true, w_false, w_null] i).then fun s j =>
    if s = [45] then (numberP T 1 j).then fun n j => .ok ⟨1, -(n : Nat), []⟩ j
    else if s = w_true then .ok ⟨3, 1, []⟩ j
    else if s = w_false then .ok ⟨3, 0, []⟩ j
    else .ok vl0 j
def leafP (T : List Tk) (i : Nat) : Rs Ex :=
  if nameW (tx T i) = true then .ok (.mk 2 vl0 (tx T i) []) (i + 1)
  else (valueP T i).then fun v j => .ok (.mk 1 v [] []) j
def brackP (T : List Tk) (ex : Nat → Rs Ex) (i : Nat) : Rs Ex :=
  (ex i).then fun a j => (may T w_is [w_null, [41]] j).then fun b j =>
    if b = true then .ok (.mk 4 vl0 [] [a]) j
    else (kindOf T (placeL opersL) j).then fun k j => (ex j).then fun b j => (must T [[41]] j).then fun _ j => .ok (.mk (k : Nat) vl0 [] [a, b]) j
def exprP (T : List Tk) : Nat → Nat → Rs Ex
  | 0, i => leafP T i
  | f + 1, i =>
    if tx T i = w_not then (exprP T f (i + 1)).then fun a j => .ok (.mk 3 vl0 [] [a]) j
    else if tx T i = [40] then brackP T (exprP T f) (i + 1)
    else leafP T i
def listGo {α : Type} (T : List Tk) (one : Nat → Rs α) : Nat → List α → Nat → Rs (List α)
  | 0, l, i => .ok l i
  | f + 1, l, i => if tx T i = [44] then (one (i + 1)).then fun x j => listGo T one f (l ++ [x]) j else .ok l i
def listP {α : Type} (T : List Tk) (one : Nat → Rs α) (i : Nat) : Rs (List α) := (one i).then fun x j => listGo T one (T.length + 1) [x] j
def inBrP {α : Type} (T : List Tk) (one : Nat → Rs α) (i : Nat) : Rs (List α) :=
  (must T [[40]] i).then fun _ j => (listP T one j).then fun l j => (must T [[41]] j).then fun _ j => .ok l j
def whereP (T : List Tk) (c : Cm) (i : Nat) : Rs Cm :=
  (may T w_where [] i).then fun b j => if b = true then (exprP T 60 j).then fun e j => .ok { c with all := false, wh := e } j else .ok { c with all := true } j
def createP (T : List Tk) (i : Nat) : Rs Cm :=
  (oneOf T [w_table, w_index] i).then fun s j =>
    if s = w_table then (nameP T j).then fun n j => (inBrP T (columnP T) j).then fun l j => .ok { cm0 with kind := 1, name := n, cols := l } j
    else (nameP T j).then fun n j => (must T [w_on] j).then fun _ j => (nameP T j).then fun o j => (must T [[40]] j).then fun _ j => (nameP T j).then fun c j => (must T [[41]] j).then fun _ j =>
      .ok { cm0 with kind := 8, name := n, other := o, column := c } j
def dropP (T : List Tk) (i : Nat) : Rs Cm :=
  (oneOf T [w_table, w_index] i).then fun s j => (nameP T j).then fun n j => .ok { cm0 with kind := if s = w_index then 9 else 2, name := n } j
def renameP (T : List Tk) (c : Cm) (i : Nat) : Rs Cm :=
  (may T w_to [] i).then fun b j =>
    if b = true then (nameP T j).then fun o j => .ok { c with kind := 7, other := o } j
    else (nameP T j).then fun l j => (must T [w_to] j).then fun _ j => (nameP T j).then fun o j => .ok { c with kind := 5, column := l, other := o } j
def alterP (T : List Tk) (i : Nat) : Rs Cm :=
  (must T [w_table] i).then fun _ j => (nameP T j).then fun n j => (oneOf T [w_add, w_drop, w_rename, w_retype] j).then fun s j =>
    if s = w_add then (columnP T j).then fun c j => (must T [w_default] j).then fun _ j => (valueP T j).then fun v j => .ok { cm0 with kind := 3, name := n, column := c.name, ty := c.ty, val := v } j
    else if s = w_drop then (nameP T j).then fun c j => .ok { cm0 with kind := 4, name := n, column := c } j
    else if s = w_rename then renameP T { cm0 with name := n } j
    else (columnP T j).then fun c j => .ok { cm0 with kind := 6, name := n, column := c.name, ty := c.ty } j
def insertP (T : List Tk) (i : Nat) : Rs Cm :=
  (must T [w_into] i).then fun _ j => (nameP T j).then fun n j => (must T [w_values] j).then fun _ j => (inBrP T (valueP T) j).then fun l j => .ok { cm0 with kind := 10, name := n, vals := l } j
def deleteP (T : List Tk) (i : Nat) : Rs Cm :=
  (must T [w_from] i).then fun _ j => (nameP T j).then fun n j => whereP T { cm0 with kind := 11, name := n } j
def updateP (T : List Tk) (i : Nat) : Rs Cm :=
  (nameP T i).then fun n j => (must T [w_set] j).then fun _ j => (nameP T j).then fun c j => (must T [[61]] j).then fun _ j => (exprP T 60 j).then fun e j =>
    whereP T { cm0 with kind := 12, name := n, column := c, expr := e } j
def fieldsP (T : List Tk) (i : Nat) : Rs (List (List UInt8)) :=
  (may T [42] [] i).then fun b j => if b = true then .ok [] j else listP T (nameP T) j
def orderP (T : List Tk) (c : Cm) (i : Nat) : Rs Cm :=
  (may T w_order [w_by] i).then fun b j => if b = true then (nameP T j).then fun o j => .ok { c with order := o } j else .ok c j
def limitP (T : List Tk) (c : Cm) (i : Nat) : Rs Cm :=
  (may T w_limit [] i).then fun b j => if b = true then (numberP T 0 j).then fun n j => .ok { c with limit := (n : Nat) } j else .ok c j
def chooseP (T : List Tk) (i : Nat) : Rs Cm :=
  (fieldsP T i).then fun l j => (must T [w_from] j).then fun _ j => (nameP T j).then fun n j =>
    (whereP T { cm0 with kind := 13, limit := -1, fields := l, name := n } j).then fun c j => (orderP T c j).then fun c j => limitP T c j
def firstW : List (List UInt8) := [w_create, w_drop, w_alter, w_insert, w_delete, w_update, w_select, w_begin, w_commit, w_rollback]
def commandP (T : List Tk) (i : Nat) : Rs Cm :=
  (oneOf T firstW i).then fun s j =>
    if s = w_create then createP T j else if s = w_drop then dropP T j else if s = w_alter then alterP T j else if s = w_insert then insertP T j
    else if s = w_delete then deleteP T j else if s = w_update then updateP T j else if s = w_select then chooseP T j
    else if s = w_begin then .ok { cm0 with kind := 14 } j else if s = w_commit then .ok { cm0 with kind := 15 } j else .ok { cm0 with kind := 16 } j
def wholeP (T : List Tk) : Rs Cm := (commandP T 0).then fun c j => if j < T.length then .bad j else .ok c j
theorem var_keep6 {P : Program} {W W' : World} {n : String} {cs : Array Value} {g : Nat} (hg : P.globalNamed n = some g) (hk : W'.heap[g]? = W.heap[g]?) (hv : W.var? P n = some cs) : W'.var? P n = some cs := by
  unfold World.var? at hv ⊢
  rw [hg] at hv ⊢
  simp only [Option.bind_some] at hv ⊢
  rw [hk]; exact hv
theorem Tryz.gPow : Tryz.prog.globalNamed "internal/strconv.uint64pow10" = some 1 := by kernel_rfl
theorem Tryz.gES : Tryz.prog.globalNamed "strconv.ErrSyntax" = some 2 := by kernel_rfl
theorem Tryz.gER : Tryz.prog.globalNamed "strconv.ErrRange" = some 3 := by kernel_rfl
structure Laid (w : World) : Prop where
  tab : Lib.TabIs Tryz.prog w "internal/strconv.uint64pow10" .u64 Lib.pow10Tab
  es : ∃ tp p, w.var? Tryz.prog "strconv.ErrSyntax" = some #[.iface tp p]
  er : ∃ tp p, w.var? Tryz.prog "strconv.ErrRange" = some #[.iface tp p]
  ml : ∃ m, w.cell? ⟨0, 0, none⟩ = some (.int .i64 m)
  sz : 6 ≤ w.heap.size
theorem Laid.keep {w w' : World} (h : Laid w) (hs : w.heap.size ≤ w'.heap.size) (hk : ∀ k, k < 6 → w'.heap[k]? = w.heap[k]?) : Laid w' := by
  obtain ⟨h1, ⟨tp, p, h2⟩, ⟨tq, q, h3⟩, ⟨m, h4⟩, h5⟩ := h
  exact ⟨var_keep6 Tryz.gPow (hk 1 (by decide)) h1, ⟨tp, p, var_keep6 Tryz.gES (hk 2 (by decide)) h2⟩, ⟨tq, q, var_keep6 Tryz.gER (hk 3 (by decide)) h3⟩,
    ⟨m, (World.cell?_of_block (w := w) (hk 0 (by decide))).trans h4⟩, Nat.le_trans h5 hs⟩
theorem Laid.below {w w' : World} (h : Laid w) (hb : Below w.heap.size w w') : Laid w' := h.keep hb.size fun k hk => hb.block k (Nat.lt_of_lt_of_le hk h.sz)
theorem Laid.grown {w w' : World} {pb : Nat} (h : Laid w) (hp : 6 ≤ pb) (hg : w.grownBy w' (some pb)) : Laid w' :=
  h.keep hg.size fun k hk => hg.block k (Nat.lt_of_lt_of_le hk h.sz) (by intro e; cases e; omega)
theorem bytes_below (w : World) (t : ByteArray) : Below w.heap.size w (Lib.bytesWorld w 5 t) := by
  unfold Lib.bytesWorld
  exact Lib.below_freeze ((Below.refl _ _).drew.alloc (Nat.le_refl _) _) (by simp) _
def atoiV (l : List UInt8) : Int := match Lib.atoiAll l with | .ok v => v | .range => Lib.atoiSat l | _ => 0
theorem atoi_any (s : ByteArray) (w : World) (hs : s.size ≤ 140737488355328) (hl : Laid w) :
    Calls Tryz.prog 174 #[.string s] w fun e w' => (∃ x, e = .returned (.tuple #[.int .i64 (atoiV s.data.toList), x])) ∧ Below w.heap.size w w' := by
  cases hr : Lib.atoiAll s.data.toList with
  | ok v =>
    refine (Tryz.strconv_Atoi_ok s (by omega) v hr w).mono ?_
    rintro e w' ⟨rfl, rfl | ⟨t, rfl⟩⟩
    · exact ⟨⟨_, by simp only [atoiV, hr]; rfl⟩, Below.refl _ _⟩
    · exact ⟨⟨_, by simp only [atoiV, hr]; rfl⟩, bytes_below w t⟩
  | range =>
    obtain ⟨tq, q, hv⟩ := hl.er
    refine (Tryz.strconv_Atoi_range_var s (by omega) hr tq q w hv).mono ?_
    rintro e w' ⟨N, rfl, -, -, hb⟩
    exact ⟨⟨_, by simp only [atoiV, hr]; rfl⟩, hb⟩
  | _ =>
    obtain ⟨tq, q, hv⟩ := hl.es
    refine (Tryz.strconv_Atoi_syntax_var s (by omega) hr tq q w hv).mono ?_
    rintro e w' ⟨N, rfl, -, -, hb⟩
    exact ⟨⟨_, by simp only [atoiV, hr]; rfl⟩, hb⟩
theorem decFrom_digits (l : List UInt8) : ∀ acc, (∀ c ∈ l, isD c = true) → Lib.decFrom acc l = some (l.foldl (fun n c => 10 * n + (c.toNat - 48)) acc) := by
  induction l with
  | nil => intro acc _; rfl
  | cons c r ih =>
    intro acc h
    have hc := h c (List.mem_cons_self ..)
    simp only [isD, Bool.and_eq_true, decide_eq_true_eq] at hc
    have hd : Lib.digitVal c = some (c.toNat - 48) := by unfold Lib.digitVal; rw [if_pos (by omega)]
    simp only [Lib.decFrom, hd, List.foldl_cons]
    rw [ih _ fun c hc => h c (List.mem_cons_of_mem _ hc), Nat.mul_comm]
theorem atoiV_digits (l : List UInt8) (h0 : l ≠ []) (h9 : l.length ≤ 9) (hd : ∀ c ∈ l, isD c = true) : atoiV l = (decN l : Nat) := by
  unfold atoiV
  rw [Lib.atoiAll_short l (by omega)]
  obtain ⟨c, r, rfl⟩ := List.exists_cons_of_ne_nil h0
  have hc := hd c (List.mem_cons_self ..)
  simp only [isD, Bool.and_eq_true, decide_eq_true_eq] at hc
  have h1 : (c == 45) = false := by rw [beq_eq_false_iff_ne]; intro e; subst e; simp at hc
  have h2 : (c == 43) = false := by rw [beq_eq_false_iff_ne]; intro e; subst e; simp at hc
  have hn : Lib.decNat (c :: r) = some (decN (c :: r)) := by rw [Lib.decNat, if_neg (by simp), decFrom_digits _ _ hd]; rfl
  simp only [Lib.atoi, h1, h2, hn]
  rfl
theorem decN_lt (l : List UInt8) (hd : ∀ c ∈ l, isD c = true) : decN l < 10 ^ l.length := by
  have go : ∀ (l : List UInt8) (acc : Nat), (∀ c ∈ l, isD c = true) → l.foldl (fun n c => 10 * n + (c.toNat - 48)) acc < (acc + 1) * 10 ^ l.length := by
    intro l
    induction l with
    | nil => intro acc _; simp
    | cons c r ih =>
      intro acc h
      have hc := h c (List.mem_cons_self ..)
      simp only [isD, Bool.and_eq_true, decide_eq_true_eq] at hc
      have := ih (10 * acc + (c.toNat - 48)) fun c hc => h c (List.mem_cons_of_mem _ hc)
      simp only [List.foldl_cons, List.length_cons, Nat.pow_succ]
      refine Nat.lt_of_lt_of_le this ?_
      have h10 : 10 * acc + (c.toNat - 48) + 1 ≤ (acc + 1) * 10 := by omega
      exact Nat.le_trans (Nat.mul_le_mul_right _ h10) (Nat.le_of_eq (by rw [Nat.mul_assoc, Nat.mul_comm 10]))
  have := go l 0 hd
  simpa [decN] using this
structure TokOk (x : Tk) : Prop where
  short : x.t.length ≤ 22
  num : x.k = 2 → x.t ≠ [] ∧ x.t.length ≤ 9 ∧ ∀ c ∈ x.t, isD c = true
  txt : x.k = 3 → 2 ≤ x.t.length
structure St (w : World) (base pb : Nat) (v : Value) (T : List Tk) (en : Int) (i : Nat) : Prop where
  blk : w.heap[pb]? = some (.cells #[v, .int .i64 (i : Int), .int .i64 en] 94)
  own : w.ownsRow base 63 3 v T.length (cellsT T)
  ne : v.ownBlock ≠ some pb
  le : i ≤ T.length
  few : T.length ≤ 2000
  six : 6 ≤ pb
  gl : Laid w
  toks : ∀ x ∈ T, TokOk x
theorem three {W : World} {b : Nat} {x y z : Value} {t : TypeId} (h : W.heap[b]? = some (.cells #[x, y, z] t)) :
    (W.cell? ⟨b, 0, none⟩ = some x ∧ W.cell? ⟨b, 1, none⟩ = some y ∧ W.cell? ⟨b, 2, none⟩ = some z) ∧ (W.frozen? ⟨b, 0, none⟩ = false ∧ W.frozen? ⟨b, 1, none⟩ = false ∧ W.frozen? ⟨b, 2, none⟩ = false) := by
  refine ⟨⟨?_, ?_, ?_⟩, Lib.frozen_of_heap h 0, Lib.frozen_of_heap h 1, Lib.frozen_of_heap h 2⟩
  · rw [Lib.cell_of_heap h]; rfl
  · rw [Lib.cell_of_heap h]; rfl
  · rw [Lib.cell_of_heap h]; rfl
theorem here_end (w : World) (pb n cap : Nat) (ao : Option Addr) (en : Int) (hb : pb < w.heap.size)
    (c0 : w.cell? ⟨pb, 0, none⟩ = some (.slice ao n cap)) (c1 : w.cell? ⟨pb, 1, none⟩ = some (.int .i64 (n : Int))) (c2 : w.cell? ⟨pb, 2, none⟩ = some (.int .i64 en)) :
    Calls Tryz.prog 112 #[.pointer (some ⟨pb, 0, none⟩)] w fun e w' => e = .returned (.agg #[.int .i64 0, .int .i64 en, .string ⟨#[]⟩]) ∧ Below w.heap.size w w' := by
  have d0 : ∀ o, (w.alloc o).cell? ⟨pb, 0, none⟩ = some (.slice ao n cap) := fun o => (cell_old o hb).trans c0
  have d1 : ∀ o, (w.alloc o).cell? ⟨pb, 1, none⟩ = some (.int .i64 (n : Int)) := fun o => (cell_old o hb).trans c1
  have d2 : ∀ o, (w.alloc o).cell? ⟨pb, 2, none⟩ = some (.int .i64 en) := fun o => (cell_old o hb).trans c2
  go_enter Tryz.func112, Tryz.ntmps112
  go_wp2
  go_quiet (fail)
  go_wp2
  refine bodyPost_ret (v := .agg #[.int .i64 0, .int .i64 en, .string ⟨#[]⟩]) ?_ rfl ⟨rfl, ?_⟩
  · simp [results, Tryz.results112, go_sem]
  · exact (((below_drewN ((Below.refl _ _).alloc (Nat.le_refl _) _) _).setCell (by simp) _).setCell (by simp) _).setCell (by simp) _
theorem here_in (w : World) (pb n cap g : Nat) (i : Nat) (k a : Int) (t : ByteArray) (hb : pb < w.heap.size) (hg : g < w.heap.size)
    (c0 : w.cell? ⟨pb, 0, none⟩ = some (.slice (some ⟨g, 0, none⟩) n cap)) (c1 : w.cell? ⟨pb, 1, none⟩ = some (.int .i64 (i : Int))) (hi : (i : Int) < (n : Int)) (hne : ((i : Int) == (n : Int)) = false)
    (e0 : w.cell? ⟨g, i * 3, none⟩ = some (.int .i64 k)) (e1 : w.cell? ⟨g, i * 3 + 1, none⟩ = some (.int .i64 a)) (e2 : w.cell? ⟨g, i * 3 + 2, none⟩ = some (.string t)) :
    Calls Tryz.prog 112 #[.pointer (some ⟨pb, 0, none⟩)] w fun e w' => e = .returned (.agg #[.int .i64 k, .int .i64 a, .string t]) ∧ Below w.heap.size w w' := by
  have d0 : ∀ o, (w.alloc o).cell? ⟨pb, 0, none⟩ = some (.slice (some ⟨g, 0, none⟩) n cap) := fun o => (cell_old o hb).trans c0
  have d1 : ∀ o, (w.alloc o).cell? ⟨pb, 1, none⟩ = some (.int .i64 (i : Int)) := fun o => (cell_old o hb).trans c1
  have f0 : ∀ o, (w.alloc o).cell? ⟨g, i * 3, none⟩ = some (.int .i64 k) := fun o => (cell_old o hg).trans e0
  have f1 : ∀ o, (w.alloc o).cell? ⟨g, i * 3 + 1, none⟩ = some (.int .i64 a) := fun o => (cell_old o hg).trans e1
  have f2 : ∀ o, (w.alloc o).cell? ⟨g, i * 3 + 2, none⟩ = some (.string t) := fun o => (cell_old o hg).trans e2
  go_enter Tryz.func112, Tryz.ntmps112
  go_wp2
  go_quiet (fail)
  go_wp2
  go_region
  go_wp2
  refine bodyPost_ret (v := .agg #[.int .i64 k, .int .i64 a, .string t]) ?_ rfl ⟨rfl, ?_⟩
  · simp [results, Tryz.results112, go_sem]
  · exact (((below_drewN ((Below.refl _ _).alloc (Nat.le_refl _) _) _).setCell (by simp) _).setCell (by simp) _).setCell (by simp) _
theorem cellsT_at (T : List Tk) : ∀ (i : Nat) (x : Tk), T[i]? = some x → (cellsT T)[i * 3]? = some (.int .i64 x.k) ∧ (cellsT T)[i * 3 + 1]? = some (.int .i64 x.a) ∧ (cellsT T)[i * 3 + 2]? = some (.string ⟨x.t.toArray⟩) := by
  induction T with
  | nil => intro i x h; simp at h
  | cons y r ih =>
    intro i x h
    cases i with
    | zero => simp at h; subst h; simp [cellsT, Tk.cells]
    | succ i =>
      have := ih i x (by simpa using h)
      have e : cellsT (y :: r) = y.cells ++ cellsT r := rfl
      rw [e]
      have e1 : (i + 1) * 3 = y.cells.length + i * 3 := by simp [Tk.cells]; omega
      rw [e1]
      refine ⟨?_, ?_, ?_⟩
      · rw [List.getElem?_append_right (by omega)]; simpa using this.1
      · rw [Nat.add_assoc, List.getElem?_append_right (by omega)]; simpa using this.2.1
      · rw [Nat.add_assoc, List.getElem?_append_right (by omega)]; simpa using this.2.2
theorem owned_at {w : World} {base : Nat} {e : TypeId} {size : Nat} {g n cap : Nat} {xs : List Value} (h : w.ownsRow base e size (.slice (some ⟨g, 0, none⟩) n cap) n xs) (j : Nat) (x : Value) (hx : xs[j]? = some x) :
    w.cell? ⟨g, j, none⟩ = some x := by
  have hj := (List.getElem?_eq_some_iff.1 hx).1
  exact (h.cellAt j (by rw [← h.1]; exact hj)).trans hx
theorem here_any {w : World} {base pb : Nat} {v : Value} {T : List Tk} {en : Int} {i : Nat} (h : St w base pb v T en i) :
    Calls Tryz.prog 112 #[.pointer (some ⟨pb, 0, none⟩)] w fun e w' => e = .returned (.agg #[.int .i64 (kd T i), .int .i64 (pl T en i), .string ⟨(tx T i).toArray⟩]) ∧ Below w.heap.size w w' := by
  obtain ⟨⟨c0, c1, c2⟩, -⟩ := three h.blk
  have hb : pb < w.heap.size := (ltS h.blk)
  by_cases hi : i = T.length
  · obtain ⟨ao, cap, hv⟩ := owns_slice h.own
    subst hi
    rw [hv] at c0
    have e1 : kd T T.length = 0 := by simp [kd]
    have e2 : pl T en T.length = en := by simp [pl]
    have e3 : tx T T.length = [] := by simp [tx]
    rw [e1, e2, e3]
    exact here_end w pb T.length cap ao en hb c0 c1 c2
  · have hlt : i < T.length := by have := h.le; omega
    obtain ⟨g, cap, hv, hg1, hg2⟩ := owns_some h.own (by omega)
    have ho := h.own
    rw [hv] at c0 ho
    have hx : T[i]? = some T[i] := List.getElem?_eq_getElem hlt
    obtain ⟨a0, a1, a2⟩ := cellsT_at T i _ hx
    have e1 : kd T i = T[i].k := by simp [kd, hx]
    have e2 : pl T en i = T[i].a := by simp [pl, hx]
    have e3 : tx T i = T[i].t := by simp [tx, hx]
    rw [e1, e2, e3]
    exact here_in w pb T.length cap g i _ _ _ hb hg2 c0 c1 (by omega) (by simp; omega) (owned_at ho _ _ a0) (owned_at ho _ _ a1) (owned_at ho _ _ a2)
theorem St.below {w w' : World} {base pb : Nat} {v : Value} {T : List Tk} {en : Int} {i : Nat} (h : St w base pb v T en i) (hb : Below w.heap.size w w') : St w' base pb v T en i :=
  ⟨(hb.block pb (ltS h.blk)).trans h.blk, owns_below h.own hb, h.ne, h.le, h.few, h.six, h.gl.below hb, h.toks⟩
theorem tokf1 (k a : Int) (t : ByteArray) (w : World) : (Instr.field 63 (.agg #[.int .i64 k, .int .i64 a, .string t]) 1).run Tryz.prog w = .ok (.int .i64 a) w := by kernel_rfl
theorem tokf2 (k a : Int) (t : ByteArray) (w : World) : (Instr.field 63 (.agg #[.int .i64 k, .int .i64 a, .string t]) 2).run Tryz.prog w = .ok (.string t) w := by kernel_rfl
abbrev pan (at_ : Int) : Ending := .panicked [{ v := .iface 90 (.int .i64 at_), recovered := false }]
theorem giveUp_any {w : World} {base pb : Nat} {v : Value} {T : List Tk} {en : Int} {i : Nat} (h : St w base pb v T en i) :
    Calls Tryz.prog 57 #[.pointer (some ⟨pb, 0, none⟩)] w fun e w' => e = pan (pl T en i) ∧ Below w.heap.size w w' := by
  have hh := here_any h
  have t1 := tokf1
  go_enter Tryz.func57, Tryz.ntmps57
  go_wp2_with (go_at_call 112; refine hh.mono ?_; rintro e w1 ⟨rfl, hb1⟩)
  exact ⟨rfl, rfl, hb1⟩
theorem may_no {w : World} {base pb : Nat} {v : Value} {T : List Tk} {en : Int} {i : Nat} (h : St w base pb v T en i) (s : ByteArray) (o : Value) (hs : tx T i ≠ s.data.toList) :
    Calls Tryz.prog 141 #[.pointer (some ⟨pb, 0, none⟩), .string s, o] w fun e w' => e = .returned (.bool false) ∧ Below w.heap.size w w' := by
  have hh := here_any h
  have t2 := tokf2
  have hne : ((tx T i) == s.toList) = false := by rw [Lib.toList_data]; simpa using hs
  go_enter Tryz.func141, Tryz.ntmps141
  go_wp2_with (go_at_call 112; refine hh.mono ?_; rintro e w1 ⟨rfl, hb1⟩)
  go_ret
  exact ⟨rfl, hb1⟩
theorem grown_refl (w : World) (r : Option Nat) : w.grownBy w r := ⟨rfl, rfl, rfl, Nat.le_refl _, fun _ _ _ => rfl⟩
theorem grown_below {w w' : World} (h : Below w.heap.size w w') (r : Option Nat) : w.grownBy w' r := ⟨h.os, h.tape, h.output, h.size, fun k hk _ => h.block k hk⟩
theorem grown_trans {a b c : World} {r : Option Nat} (h : a.grownBy b r) (k : b.grownBy c r) : a.grownBy c r :=
  ⟨k.os.trans h.os, k.tape.trans h.tape, k.output.trans h.output, Nat.le_trans h.size k.size, fun i hi hr => (k.block i (Nat.lt_of_lt_of_le hi h.size) hr).trans (h.block i hi hr)⟩
theorem grown_set (w : World) (b o : Nat) (x : Value) : w.grownBy (w.setCell ⟨b, o, none⟩ x) (some b) :=
  ⟨rfl, rfl, rfl, by simp [World.setCell], fun k _ hk => heap_setCell_other w _ k x (by intro e; exact hk (by rw [e]))⟩
theorem St.set {w : World} {base pb : Nat} {v : Value} {T : List Tk} {en : Int} {i : Nat} (h : St w base pb v T en i) (j : Nat) (hj : j ≤ T.length) : St (w.setCell ⟨pb, 1, none⟩ (.int .i64 (j : Int))) base pb v T en j := by
  refine ⟨?_, ?_, h.ne, hj, h.few, h.six, h.gl.grown h.six (grown_set w pb 1 _), h.toks⟩
  · exact heap_setCell_same _ pb 1 _ 94 (.int .i64 (j : Int)) h.blk
  · exact h.own.kept (grown_set w pb 1 _) (.inr h.ne)
structure Out {α : Type} (W : World) (base pb : Nat) (v : Value) (T : List Tk) (en : Int) (rep : World → Value → α → Prop) (r : Rs α) (e : Ending) (w' : World) : Prop where
  grown : W.grownBy w' (some pb)
  ok : ∀ a j, r = .ok a j → ∃ u, e = .returned u ∧ rep w' u a ∧ St w' base pb v T en j
  bad : ∀ j, r = .bad j → e = pan (pl T en j)
theorem Out.mkOk {α : Type} {W : World} {base pb : Nat} {v : Value} {T : List Tk} {en : Int} {rep : World → Value → α → Prop} {r : Rs α} {w' : World} {u : Value} {a : α} {j : Nat}
    (hg : W.grownBy w' (some pb)) (hr : r = .ok a j) (hu : rep w' u a) (hs : St w' base pb v T en j) : Out W base pb v T en rep r (.returned u) w' :=
  ⟨hg, by intro a' j' h; rw [hr] at h; cases h; exact ⟨u, rfl, hu, hs⟩, by intro j' h; rw [hr] at h; cases h⟩
theorem Out.mkBad {α : Type} {W : World} {base pb : Nat} {v : Value} {T : List Tk} {en : Int} {rep : World → Value → α → Prop} {r : Rs α} {w' : World} {j : Nat}
    (hg : W.grownBy w' (some pb)) (hr : r = .bad j) : Out W base pb v T en rep r (pan (pl T en j)) w' :=
  ⟨hg, (by intro a' j' h; rw [hr] at h; cases h), (by intro j' h; rw [hr] at h; cases h; rfl)⟩
def repB (_ : World) (u : Value) (b : Bool) : Prop := u = .bool b
def repU (_ : World) (u : Value) (_ : Unit) : Prop := u = .tuple #[]
def repS (_ : World) (u : Value) (s : List UInt8) : Prop := u = .string ⟨s.toArray⟩
def repN (_ : World) (u : Value) (n : Nat) : Prop := u = .int .i64 (n : Int)
def Strs (w : World) (pb : Nat) (o : Value) (ws : List (List UInt8)) : Prop :=
  (ws = [] ∧ o = .slice none 0 0) ∨ ∃ b cap, o = .slice (some ⟨b, 0, none⟩) ws.length cap ∧ b ≠ pb ∧ b < w.heap.size ∧ ∀ k s, ws[k]? = some s → w.cell? ⟨b, k, none⟩ = some (.string ⟨s.toArray⟩)
theorem tx_lt {T : List Tk} {i : Nat} (h : tx T i ≠ []) : i < T.length := by
  rcases Nat.lt_or_ge i T.length with h' | h'
  · exact h'
  · exact absurd (by simp [tx, List.getElem?_eq_none h']) h
theorem may_yes {w : World} {base pb : Nat} {v : Value} {T : List Tk} {en : Int} {i : Nat} (h : St w base pb v T en i) (s : ByteArray) (o : Value) (hs : tx T i = s.data.toList) (h0 : s.data.toList ≠ []) (ws : List (List UInt8))
    (hm : ∀ W, w.grownBy W (some pb) → St W base pb v T en (i + 1) → Calls Tryz.prog 145 #[.pointer (some ⟨pb, 0, none⟩), o] W fun e w' => Out W base pb v T en repU (must T ws (i + 1)) e w') :
    Calls Tryz.prog 141 #[.pointer (some ⟨pb, 0, none⟩), .string s, o] w fun e w' => Out w base pb v T en repB (may T s.data.toList ws i) e w' := by
  have hh := here_any h
  have t2 := tokf2
  have heq : ((tx T i) == s.toList) = true := by rw [Lib.toList_data, hs]; simp
  have hlt : i < T.length := tx_lt (by rw [hs]; exact h0)
  have hmay : may T s.data.toList ws i = (must T ws (i + 1)).then fun _ j => .ok true j := by rw [may, if_pos hs]
  rw [hmay]
  clear hmay hs
  have hf := h.few
  go_enter Tryz.func141, Tryz.ntmps141
  go_wp2_with (go_at_call 112; refine hh.mono ?_; rintro e w1 ⟨rfl, hb1⟩; have s1 := h.below hb1; obtain ⟨⟨c0, c1, c2⟩, f0, f1, f2⟩ := three s1.blk)
  have e1 : ((i : Int) + 1) = ((i + 1 : Nat) : Int) := by omega
  have s2 := s1.set (i + 1) hlt
  have g2 : w.grownBy (w1.setCell ⟨pb, 1, none⟩ (.int .i64 ((i + 1 : Nat) : Int))) (some pb) := grown_trans (grown_below hb1 _) (grown_set _ _ _ _)
  have e2 : Value.int .i64 ((i : Int) + 1) = .int .i64 ((i + 1 : Nat) : Int) := by rw [e1]
  rw [e2]
  refine (hm _ g2 s2).mono ?_
  intro e w2 o2
  have g3 := grown_trans g2 o2.grown
  cases hr : must T ws (i + 1) with
  | bad j =>
    obtain rfl := o2.bad j hr
    exact ⟨rfl, .mkBad g3 (by simp [hr])⟩
  | ok a j =>
    obtain ⟨u, rfl, hu, s3⟩ := o2.ok a j hr
    have HR : Hid ((must T ws (i + 1)).then (fun _ j => .ok true j) = .ok true j) := by simp [Hid, hr]
    clear hr o2 hm s2 g2 hh c0 c1 c2 f0 f1 f2
    go_wp2
    go_ret
    exact .mkOk g3 HR.out rfl s3
theorem Strs.grown {w w' : World} {pb : Nat} {o : Value} {ws : List (List UInt8)} (h : Strs w pb o ws) (hg : w.grownBy w' (some pb)) : Strs w' pb o ws := by
  rcases h with h | ⟨b, cap, rfl, hb, hl, hc⟩
  · exact .inl h
  · exact .inr ⟨b, cap, rfl, hb, Nat.lt_of_lt_of_le hl hg.size, fun k s hk => (cell_grown hg hl (by simpa using hb)).trans (hc k s hk)⟩
theorem must_nil {w : World} {base pb : Nat} {v : Value} {T : List Tk} {en : Int} {i : Nat} (h : St w base pb v T en i) :
    Calls Tryz.prog 145 #[.pointer (some ⟨pb, 0, none⟩), .slice none 0 0] w fun e w' => Out w base pb v T en repU (must T [] i) e w' := by
  go_enter Tryz.func145, Tryz.ntmps145
  go_wp2
  go_loopw [8] (fun k wr => k = .int .i64 0 ∧ wr = w) (fun _ _ => 0)
  case atStart => exact ⟨rfl, rfl⟩
  case round =>
    obtain ⟨rfl, rfl⟩ := hrel
    go_wp2
    go_end0
    exact .mkOk (grown_refl _ _) (a := ()) rfl rfl h
theorem may_nil {w : World} {base pb : Nat} {v : Value} {T : List Tk} {en : Int} {i : Nat} (h : St w base pb v T en i) (s : List UInt8) (h0 : s ≠ []) :
    Calls Tryz.prog 141 #[.pointer (some ⟨pb, 0, none⟩), .string ⟨s.toArray⟩, .slice none 0 0] w fun e w' =>
      e = .returned (.bool (decide (tx T i = s))) ∧ w.grownBy w' (some pb) ∧ St w' base pb v T en (if tx T i = s then i + 1 else i) := by
  by_cases hs : tx T i = s
  · refine (may_yes h ⟨s.toArray⟩ (.slice none 0 0) (by simpa using hs) (by simpa using h0) [] fun W _ hW => must_nil hW).mono ?_
    intro e w1 o1
    obtain ⟨u, rfl, hu, s1⟩ := o1.ok true (i + 1) (by simp [may, must, hs])
    rw [hu, if_pos hs]
    exact ⟨by simp [hs], o1.grown, s1⟩
  · refine (may_no h ⟨s.toArray⟩ (.slice none 0 0) (by simpa using hs)).mono ?_
    rintro e w1 ⟨rfl, hb⟩
    rw [if_neg hs]
    exact ⟨by simp [hs], grown_below hb _, h.below hb⟩
theorem must_some {w : World} {base pb : Nat} {v : Value} {T : List Tk} {en : Int} {i : Nat} (h : St w base pb v T en i) (b cap : Nat) (ws : List (List UInt8)) (hne : b ≠ pb) (hb : b < w.heap.size)
    (hn : ws.length ≤ 100) (hc : ∀ k s, ws[k]? = some s → w.cell? ⟨b, k, none⟩ = some (.string ⟨s.toArray⟩)) (h0 : ∀ s ∈ ws, s ≠ []) :
    Calls Tryz.prog 145 #[.pointer (some ⟨pb, 0, none⟩), .slice (some ⟨b, 0, none⟩) ws.length cap] w fun e w' => Out w base pb v T en repU (must T ws i) e w' := by
  obtain ⟨n, hl⟩ : ∃ n, ws.length = n := ⟨_, rfl⟩
  rw [hl] at hn ⊢
  go_enter Tryz.func145, Tryz.ntmps145
  go_wp2
  go_loopw [8] (fun x wr => ∃ k : Nat, k ≤ n ∧ x = .int .i64 k ∧ w.grownBy wr (some pb) ∧ St wr base pb v T en (i + k) ∧ Hid (must T ws i = must T (ws.drop k) (i + k))) (fun x _ => n - (intOf x).toNat)
  case atStart => exact ⟨0, Nat.zero_le _, rfl, grown_refl _ _, h, rfl⟩
  case round =>
    obtain ⟨k, hk, rfl, hg, hst, HM⟩ := hrel
    by_cases hlt : k < n
    · obtain ⟨s, hs⟩ : ∃ s, ws[k]? = some s := ⟨ws[k], List.getElem?_eq_getElem (by omega)⟩
      have a0 := (cell_grown hg (b := b) (o := k) hb (by simpa using hne)).trans (hc k s hs)
      have hmay := may_nil hst s (h0 s (List.mem_of_getElem? hs))
      have hd : ws.drop k = s :: ws.drop (k + 1) := by rw [List.drop_eq_getElem_cons (by omega)]; congr 1; exact (List.getElem?_eq_some_iff.1 hs).2
      have hlt' : (k : Int) < (n : Int) := by omega
      have HH := HM.out
      rw [hd, must] at HH
      by_cases ht : tx T (i + k) = s
      · rw [if_pos ht] at HH
        simp only [ht, if_true, decide_true] at hmay
        have HM2 : Hid (must T ws i = must T (ws.drop (k + 1)) (i + k + 1)) := HH
        clear HH HM hs hc hd ht
        go_wp2_with (go_at_call 141; refine hmay.mono ?_; rintro e w2 ⟨rfl, g2, s2⟩)
        go_roundw
        case rel => exact ⟨k + 1, by omega, by go_num, grown_trans hg g2, s2, HM2⟩
        case measure => simp [intOf]; omega
      · rw [if_neg ht] at HH
        simp only [ht, if_false, decide_false] at hmay
        have HM2 : Hid (must T ws i = .bad (i + k)) := HH
        clear HH HM hs hc hd ht
        go_wp2_with (first | (go_at_call 141; refine hmay.mono ?_; rintro e w2 ⟨rfl, g2, s2⟩) | (go_at_call 57; refine (giveUp_any s2).mono ?_; rintro e w3 ⟨rfl, b3⟩))
        exact ⟨rfl, .mkBad (grown_trans (grown_trans hg g2) (grown_below b3 _)) HM2.out⟩
    · have hkn : k = n := by omega
      have HH := HM.out
      rw [List.drop_eq_nil_of_le (by omega), must] at HH
      have HM2 : Hid (must T ws i = .ok () (i + k)) := HH
      clear HH HM hc
      go_wp2
      go_end0
      exact .mkOk hg HM2.out rfl hst
theorem must_any {w : World} {base pb : Nat} {v : Value} {T : List Tk} {en : Int} {i : Nat} (h : St w base pb v T en i) (o : Value) (ws : List (List UInt8)) (ho : Strs w pb o ws) (hn : ws.length ≤ 100) (h0 : ∀ s ∈ ws, s ≠ []) :
    Calls Tryz.prog 145 #[.pointer (some ⟨pb, 0, none⟩), o] w fun e w' => Out w base pb v T en repU (must T ws i) e w' := by
  rcases ho with ⟨rfl, rfl⟩ | ⟨b, cap, rfl, hb, hl, hc⟩
  · exact must_nil h
  · exact must_some h b cap ws hb hl hn hc h0
theorem may_any {w : World} {base pb : Nat} {v : Value} {T : List Tk} {en : Int} {i : Nat} (h : St w base pb v T en i) (s : List UInt8) (hs : s ≠ []) (o : Value) (ws : List (List UInt8)) (ho : Strs w pb o ws) (hn : ws.length ≤ 100) (h0 : ∀ s ∈ ws, s ≠ []) :
    Calls Tryz.prog 141 #[.pointer (some ⟨pb, 0, none⟩), .string ⟨s.toArray⟩, o] w fun e w' => Out w base pb v T en repB (may T s ws i) e w' := by
  by_cases ht : tx T i = s
  · have := may_yes h ⟨s.toArray⟩ o (by simpa using ht) (by simpa using hs) ws fun W hW sW => must_any sW o ws (ho.grown hW) hn h0
    simpa using this
  · refine (may_no h ⟨s.toArray⟩ o (by simpa using ht)).mono ?_
    rintro e w1 ⟨rfl, hb⟩
    exact .mkOk (grown_below hb _) (by rw [may, if_neg ht]) rfl (h.below hb)
theorem oneOf_some {w : World} {base pb : Nat} {v : Value} {T : List Tk} {en : Int} {i : Nat} (h : St w base pb v T en i) (b cap : Nat) (ws : List (List UInt8)) (hne : b ≠ pb) (hb : b < w.heap.size)
    (hn : ws.length ≤ 100) (hc : ∀ k s, ws[k]? = some s → w.cell? ⟨b, k, none⟩ = some (.string ⟨s.toArray⟩)) (h0 : ∀ s ∈ ws, s ≠ []) :
    Calls Tryz.prog 104 #[.pointer (some ⟨pb, 0, none⟩), .slice (some ⟨b, 0, none⟩) ws.length cap] w fun e w' => Out w base pb v T en repS (oneOf T ws i) e w' := by
  obtain ⟨n, hl⟩ : ∃ n, ws.length = n := ⟨_, rfl⟩
  rw [hl] at hn ⊢
  go_enter Tryz.func104, Tryz.ntmps104
  go_wp2
  go_loopw [9] (fun x wr => ∃ k : Nat, k ≤ n ∧ x = .int .i64 k ∧ w.grownBy wr (some pb) ∧ St wr base pb v T en i ∧ Hid (oneOf T ws i = oneOf T (ws.drop k) i)) (fun x _ => n - (intOf x).toNat)
  case atStart => exact ⟨0, Nat.zero_le _, rfl, grown_refl _ _, h, rfl⟩
  case round =>
    obtain ⟨k, hk, rfl, hg, hst, HM⟩ := hrel
    by_cases hlt : k < n
    · obtain ⟨s, hs⟩ : ∃ s, ws[k]? = some s := ⟨ws[k], List.getElem?_eq_getElem (by omega)⟩
      have a0 := (cell_grown hg (b := b) (o := k) hb (by simpa using hne)).trans (hc k s hs)
      have hmay := may_nil hst s (h0 s (List.mem_of_getElem? hs))
      have hd : ws.drop k = s :: ws.drop (k + 1) := by rw [List.drop_eq_getElem_cons (by omega)]; congr 1; exact (List.getElem?_eq_some_iff.1 hs).2
      have hlt' : (k : Int) < (n : Int) := by omega
      have HH := HM.out
      rw [hd, oneOf] at HH
      by_cases ht : tx T i = s
      · rw [if_pos ht] at HH
        simp only [ht, if_true, decide_true] at hmay
        have HM2 : Hid (oneOf T ws i = .ok s (i + 1)) := HH
        clear HH HM hs hc hd ht
        go_wp2_with (go_at_call 141; refine hmay.mono ?_; rintro e w2 ⟨rfl, g2, s2⟩)
        go_ret
        exact .mkOk (grown_trans hg g2) HM2.out rfl s2
      · rw [if_neg ht] at HH
        simp only [ht, if_false, decide_false] at hmay
        have HM2 : Hid (oneOf T ws i = oneOf T (ws.drop (k + 1)) i) := HH
        clear HH HM hs hc hd ht
        go_wp2_with (go_at_call 141; refine hmay.mono ?_; rintro e w2 ⟨rfl, g2, s2⟩)
        go_roundw
        case rel => exact ⟨k + 1, by omega, by go_num, grown_trans hg g2, s2, HM2⟩
        case measure => simp [intOf]; omega
    · have hkn : k = n := by omega
      have HH := HM.out
      rw [List.drop_eq_nil_of_le (by omega), oneOf] at HH
      have HM2 : Hid (oneOf T ws i = .bad i) := HH
      clear HH HM hc
      go_wp2_with (go_at_call 57; refine (giveUp_any hst).mono ?_; rintro e w3 ⟨rfl, b3⟩)
      exact ⟨rfl, .mkBad (grown_trans hg (grown_below b3 _)) HM2.out⟩
theorem contains_cons (b : UInt8) (l sub : List UInt8) : Lib.contains (b :: l) sub = (sub.isPrefixOf (b :: l) || Lib.contains l sub) := by
  have h := Lib.index_ge l sub
  unfold Lib.contains
  rw [Lib.index]
  split
  · rename_i h1; simp [h1]
  · rename_i h1
    split
    · rename_i h2
      have h2' : Lib.index l sub = -1 := by simpa using h2
      simp [h1, h2']
    · rename_i h2
      have h2' : Lib.index l sub ≠ -1 := by simpa using h2
      have e1 : (0 ≤ Lib.index l sub + 1) := by omega
      have e2 : (0 ≤ Lib.index l sub) := by omega
      simp [h1, e1, e2]
theorem pre_word (rest : List UInt8) : ∀ (s w : List UInt8), (32 : UInt8) ∉ s → (32 : UInt8) ∉ w → (s ++ [32]).isPrefixOf (w ++ 32 :: rest) = (s == w) := by
  intro s
  induction s with
  | nil =>
    intro w _ hw
    cases w with
    | nil => simp
    | cons c r =>
      simp only [List.mem_cons, not_or] at hw
      rw [List.nil_append, List.cons_append, List.isPrefixOf_cons_cons, beq_eq_false_iff_ne.2 hw.1]
      rfl
  | cons c r ih =>
    intro w hs hw
    cases w with
    | nil =>
      simp only [List.mem_cons, not_or] at hs
      rw [List.nil_append, List.cons_append, List.isPrefixOf_cons_cons, beq_eq_false_iff_ne.2 (Ne.symm hs.1)]
      rfl
    | cons d q =>
      simp only [List.mem_cons, not_or] at hs hw
      have := ih q hs.2 hw.2
      simp only [List.cons_append, List.isPrefixOf_cons_cons, this]
      rfl
theorem skip_word (sub rest : List UInt8) : ∀ w : List UInt8, (32 : UInt8) ∉ w → Lib.contains (w ++ 32 :: rest) (32 :: sub) = Lib.contains (32 :: rest) (32 :: sub) := by
  intro w
  induction w with
  | nil => intro _; rfl
  | cons c r ih =>
    intro h
    simp only [List.mem_cons, not_or] at h
    rw [List.cons_append, contains_cons, ih h.2, List.isPrefixOf_cons_cons]
    have : ((32 : UInt8) == c) = false := by rw [beq_eq_false_iff_ne]; exact h.1
    rw [this]; rfl
def encL : List (List UInt8) → List UInt8
  | [] => []
  | w :: ws => w ++ 32 :: encL ws
theorem contains_words (s : List UInt8) (hs : (32 : UInt8) ∉ s) : ∀ ws : List (List UInt8), (∀ w ∈ ws, (32 : UInt8) ∉ w) → Lib.contains (32 :: encL ws) (32 :: (s ++ [32])) = ws.contains s := by
  intro ws
  induction ws with
  | nil =>
    intro _
    rw [contains_cons]
    have h1 : (32 :: (s ++ [32])).isPrefixOf (32 :: encL []) = false := by cases s <;> simp [encL]
    have h2 : Lib.contains (encL []) (32 :: (s ++ [32])) = false := by simp [encL, Lib.contains, Lib.index]
    rw [h1, h2]; rfl
  | cons w ws ih =>
    intro h
    have hw := h w (List.mem_cons_self ..)
    rw [contains_cons, encL, List.isPrefixOf_cons_cons, pre_word _ s w hs hw, skip_word _ _ _ hw, ih fun x hx => h x (List.mem_cons_of_mem _ hx)]
    rw [List.contains_cons]; rfl
theorem runL_all (p : UInt8 → Bool) (l : List UInt8) (h : runL p l = l.length) : ∀ c ∈ l, p c = true := by
  induction l with
  | nil => intro c hc; cases hc
  | cons a r ih =>
    rw [runL_cons] at h
    by_cases ha : p a = true
    · rw [if_pos ha] at h
      intro c hc
      rcases List.mem_cons.1 hc with rfl | hc
      · exact ha
      · exact ih (by simpa using h) c hc
    · rw [if_neg ha] at h; simp at h
theorem name_parts {s : List UInt8} (h : aloneB 1 s = true) : ∃ c r, s = c :: r ∧ isL c = true ∧ (∀ x ∈ r, isW x = true) ∧ s.length ≤ 12 := by
  rw [isTok_iff] at h
  unfold isTokB at h
  simp only [decide_eq_true_eq] at h
  obtain ⟨h0, -, h1, h2, h3⟩ := h
  obtain ⟨c, r, rfl⟩ := List.exists_cons_of_ne_nil h0
  have hk : (tokL (c :: r)).1 = 1 := by omega
  rw [hk] at h3
  have hl : ¬ 12 < (c :: r).length := by
    intro hgt
    rw [wrongL, if_neg (by decide), if_pos (.inl ⟨rfl, hgt⟩)] at h3
    cases h3
  rw [tokL] at hk h2
  by_cases hc : isL c = true
  · rw [if_pos hc] at h2
    exact ⟨c, r, rfl, hc, runL_all isW r (by simpa using h2), by omega⟩
  · rw [if_neg hc] at hk
    split at hk
    · cases hk
    · split at hk
      · split at hk <;> cases hk
      · split at hk
        · cases hk
        · split at hk <;> cases hk
theorem isW_not32 {c : UInt8} (h : isW c = true) : c ≠ 32 := by
  intro e; subst e; revert h; decide
theorem isL_isW {c : UInt8} (h : isL c = true) : isW c = true := by simp [isW, h]
theorem names_no_blank {s : List UInt8} (h : aloneB 1 s = true) : (32 : UInt8) ∉ s := by
  obtain ⟨c, r, rfl, hc, hr, -⟩ := name_parts h
  intro hm
  rcases List.mem_cons.1 hm with e | hm
  · exact isW_not32 (isL_isW hc) e.symm
  · exact isW_not32 (hr _ hm) rfl
theorem taken_no_blank : ∀ w ∈ takenL, (32 : UInt8) ∉ w := by decide +kernel
theorem contains_taken {s : List UInt8} (h : aloneB 1 s = true) : Lib.contains (32 :: encL takenL) (32 :: (s ++ [32])) = takenL.contains s :=
  contains_words s (names_no_blank h) takenL taken_no_blank
theorem blanked (s : ByteArray) : ((⟨#[32]⟩ : ByteArray) ++ s ++ ⟨#[32]⟩) = ⟨(32 :: (s.data.toList ++ [32])).toArray⟩ := by
  obtain ⟨⟨l⟩⟩ := s
  have := mk_append ([32] ++ l) [32]
  rw [← mk_append] at this
  simpa using this
theorem name_row (s : ByteArray) (w : World) : TokRow (w.alloc (.cells #[.int .i64 1, .int .i64 0, .string s] 63)) w.heap.size 0 1 [⟨1, 0, s.data.toList⟩] := by
  refine ⟨rfl, ?_⟩
  intro i x hx
  match i, hx with
  | 0, hx =>
    simp at hx; subst hx
    simp
  | i + 1, hx => simp at hx
theorem name_joinS (s : List UInt8) : (joinS [⟨1, 0, s⟩]).2 = if aloneB 1 s = true then 0 else 1 := by
  unfold joinS
  by_cases h : aloneB 1 s = true
  · obtain ⟨_, _, _, _, _, hl⟩ := name_parts h
    rw [if_pos (by simpa using h), if_pos h, if_neg]
    show ¬ 2000 < s.length
    omega
  · rw [if_neg (by simpa using h), if_neg h]
theorem name_call (s : ByteArray) (w : World) (hs : s.size ≤ 140737488355328) :
    Calls Tryz.prog 16 #[.slice (some ⟨w.heap.size, 0, none⟩) 1 1] (w.alloc (.cells #[.int .i64 1, .int .i64 0, .string s] 63)) fun e w' =>
      (∃ S : List UInt8, e = .returned (.tuple #[.string ⟨S.toArray⟩, .int .i64 ((if aloneB 1 s.data.toList = true then 0 else 1 : Nat) : Int)])) ∧ Below w.heap.size w w' := by
  have hsz : s.data.toList.length = s.size := by simp
  refine (join_some w.heap.size 0 1 1 [⟨1, 0, s.data.toList⟩] _ (by decide) (by decide) (by simp) (name_row s w) (by intro x hx; simp at hx; subst hx; simp; omega)).mono ?_
  rintro e w' ⟨rfl, hb⟩
  rw [← name_joinS]
  exact ⟨⟨_, rfl⟩, ((Below.refl _ _).alloc (Nat.le_refl _) _).trans (hb.mono (by simp))⟩
theorem isName_no (s : ByteArray) (w : World) (hs : s.size ≤ 140737488355328) (h : aloneB 1 s.data.toList = false) :
    Calls Tryz.prog 72 #[.string s] w fun e w' => e = .returned (.bool false) ∧ Below w.heap.size w w' := by
  have hj := name_call s w hs
  simp only [h, Bool.false_eq_true, if_false] at hj
  go_enter Tryz.func72, Tryz.ntmps72
  go_wp2_with (go_at_call 16; refine hj.mono ?_; rintro e w1 ⟨⟨S, rfl⟩, hb1⟩)
  go_ret
  exact ⟨rfl, hb1⟩
theorem isName_yes (s : ByteArray) (w : World) (hs : s.size ≤ 140737488355328) (hl : Laid w) (h : aloneB 1 s.data.toList = true) :
    Calls Tryz.prog 72 #[.string s] w fun e w' => e = .returned (.bool (!takenL.contains s.data.toList)) ∧ Below w.heap.size w w' := by
  have hj := name_call s w hs
  simp only [h, if_true] at hj
  have hc : ∀ W : World, Laid W → Calls Tryz.prog 120 #[.string ⟨(32 :: encL takenL).toArray⟩, .string ((⟨#[32]⟩ : ByteArray) ++ s ++ ⟨#[32]⟩)] W fun e w' => e = .returned (.bool (takenL.contains s.data.toList)) ∧ w' = W := by
    intro W hW
    obtain ⟨m, hm⟩ := hW.ml
    have := Tryz.strings_Contains ⟨(32 :: encL takenL).toArray⟩ ((⟨#[32]⟩ : ByteArray) ++ s ++ ⟨#[32]⟩) m W (by decide +kernel) hm
    rw [blanked] at this ⊢
    simpa only [contains_taken h] using this
  generalize takenL.contains s.data.toList = B at hc ⊢
  go_enter Tryz.func72, Tryz.ntmps72
  go_wp2_with (go_at_call 16; refine hj.mono ?_; rintro e w1 ⟨⟨S, rfl⟩, hb1⟩)
  refine (hc _ (hl.below hb1)).mono ?_
  rintro e w2 ⟨rfl, rfl⟩
  go_wp2
  go_ret
  exact ⟨rfl, hb1⟩
theorem isName_any (s : ByteArray) (w : World) (hs : s.size ≤ 140737488355328) (hl : Laid w) :
    Calls Tryz.prog 72 #[.string s] w fun e w' => e = .returned (.bool (nameW s.data.toList)) ∧ Below w.heap.size w w' := by
  unfold nameW
  cases h : aloneB 1 s.data.toList
  · exact isName_no s w hs h
  · exact isName_yes s w hs hl h
def StrAt (w : World) (b : Nat) (ws : List (List UInt8)) : Prop := ∀ k s, ws[k]? = some s → w.cell? ⟨b, k, none⟩ = some (.string ⟨s.toArray⟩)
theorem beq_bytes (s : ByteArray) (l : List UInt8) : (s.toList == l) = decide (s.data.toList = l) := by
  rw [Lib.toList_data, Bool.eq_iff_iff, beq_iff_eq, decide_eq_true_iff]
theorem idxOf_go (l : List (List UInt8)) (s : List UInt8) : ∀ k, (∀ j, j < k → l[j]? ≠ some s) → l[k]? = some s → l.idxOf? s = some k := by
  induction l with
  | nil => intro k _ h; simp at h
  | cons x r ih =>
    intro k hn h
    cases k with
    | zero => simp only [List.getElem?_cons_zero, Option.some.injEq] at h; subst h; simp [List.idxOf?_cons]
    | succ k =>
      have hx : x ≠ s := by have := hn 0 (by omega); simpa using this
      have := ih k (fun j hj => by simpa using hn (j + 1) (by omega)) (by simpa using h)
      rw [List.idxOf?_cons, if_neg (by simpa using hx), this]; rfl
theorem idxOf_none (l : List (List UInt8)) (s : List UInt8) (h : ∀ j : Nat, l[j]? ≠ some s) : l.idxOf? s = none := by
  rw [List.idxOf?_eq_none_iff]
  intro hm
  obtain ⟨j, hj⟩ := List.mem_iff_getElem?.1 hm
  exact h j hj
def idxI (l : List (List UInt8)) (s : List UInt8) : Int := match l.idxOf? s with | some k => (k : Nat) | none => -1
theorem index_any (s : ByteArray) (w : World) (b cap : Nat) (ws : List (List UInt8)) (hn : ws.length ≤ 100) (hc : StrAt w b ws) :
    Calls Tryz.prog 191 #[.slice (some ⟨b, 0, none⟩) ws.length cap, .string s] w fun e w' => e = .returned (.int .i64 (idxI ws s.data.toList)) ∧ w' = w := by
  obtain ⟨n, hl⟩ : ∃ n, ws.length = n := ⟨_, rfl⟩
  rw [hl] at hn ⊢
  go_enter Tryz.func191, Tryz.ntmps191
  go_wp2
  go_loopw [8] (fun x wr => ∃ k : Nat, k ≤ n ∧ x = .int .i64 k ∧ wr = w ∧ Hid (∀ j, j < k → ws[j]? ≠ some s.data.toList)) (fun x _ => n - (intOf x).toNat)
  case atStart => exact ⟨0, Nat.zero_le _, rfl, rfl, fun j hj => absurd hj (Nat.not_lt_zero _)⟩
  case round =>
    obtain ⟨k, hk, rfl, rfl, HM⟩ := hrel
    by_cases hlt : k < n
    · obtain ⟨u, hu⟩ : ∃ u, ws[k]? = some u := ⟨ws[k], List.getElem?_eq_getElem (by omega)⟩
      have a0 := hc k u hu
      have hlt' : (k : Int) < (n : Int) := by omega
      have HU : Hid (ws[k]? = some u) := hu
      have hq : (s.toList == u) = decide (s.data.toList = u) := beq_bytes s u
      clear hu hc
      by_cases he : s.data.toList = u
      · rw [decide_eq_true he] at hq
        have HE : Hid (s.data.toList = u) := he
        clear he
        go_wp2
        go_ret
        refine ⟨ret_int ?_, rfl⟩
        rw [idxI, idxOf_go ws _ k HM.out (by rw [HE.out]; exact HU.out)]
      · rw [decide_eq_false he] at hq
        have HE : Hid (s.data.toList ≠ u) := he
        clear he
        go_wp2
        go_roundw
        case rel =>
          refine ⟨k + 1, by omega, by go_num, trivial, fun j hj => ?_⟩
          rcases Nat.lt_or_ge j k with h | h
          · exact HM.out j h
          · rw [show j = k by omega, HU.out]; intro e; cases e; exact HE.out rfl
        case measure => simp [intOf]; omega
    · clear hc
      go_wp2
      go_ret
      refine ⟨ret_int ?_, rfl⟩
      rw [idxI, idxOf_none ws _ fun j => ?_]
      rcases Nat.lt_or_ge j k with h | h
      · exact HM.out j h
      · rw [List.getElem?_eq_none (by omega)]; simp
theorem place_any (s : ByteArray) (w : World) (b cap : Nat) (ws : List (List UInt8)) (hn : ws.length ≤ 100) (hc : StrAt w b ws) :
    Calls Tryz.prog 180 #[.slice (some ⟨b, 0, none⟩) ws.length cap, .string s] w fun e w' => e = .returned (.int .i64 (placeL ws s.data.toList : Nat)) ∧ w' = w := by
  have hi := index_any s w b cap ws hn hc
  go_enter Tryz.func180, Tryz.ntmps180
  go_wp2_with (go_at_call 191; refine hi.mono ?_; rintro e w' ⟨rfl, rfl⟩)
  go_ret
  refine ⟨ret_int ?_, rfl⟩
  unfold idxI placeL
  cases ws.idxOf? s.data.toList with
  | none => rfl
  | some k => simp
theorem atL_nil (ws : List (List UInt8)) (k : Int) (h : k < 0 ∨ (ws.length : Int) ≤ k) : atL ws k = [] := by
  unfold atL
  split
  · rfl
  · rw [List.getD_eq_getElem?_getD, List.getElem?_eq_none (by omega)]; rfl
theorem at_any (k : Int) (w : World) (b cap : Nat) (ws : List (List UInt8)) (hc : StrAt w b ws) :
    Calls Tryz.prog 156 #[.slice (some ⟨b, 0, none⟩) ws.length cap, .int .i64 k] w fun e w' => e = .returned (.string ⟨(atL ws k).toArray⟩) ∧ w' = w := by
  obtain ⟨n, hl⟩ : ∃ n, ws.length = n := ⟨_, rfl⟩
  rw [hl]
  by_cases h0 : k < 0
  · rw [atL_nil ws k (.inl h0)]
    clear hc
    go_enter Tryz.func156, Tryz.ntmps156
    go_wp2
    go_ret
    exact ⟨rfl, rfl⟩
  by_cases h1 : (n : Int) ≤ k
  · rw [atL_nil ws k (.inr (by omega))]
    have hd : decide (k < 0) = false := by simpa using h0
    clear hc h0
    go_enter Tryz.func156, Tryz.ntmps156
    go_wp2
    go_ret
    exact ⟨rfl, rfl⟩
  · obtain ⟨j, rfl⟩ : ∃ j : Nat, k = (j : Int) := ⟨k.toNat, by omega⟩
    obtain ⟨u, hu⟩ : ∃ u, ws[j]? = some u := ⟨ws[j], List.getElem?_eq_getElem (by omega)⟩
    have a0 := hc j u hu
    have e : atL ws (j : Int) = u := by
      unfold atL
      rw [if_neg h0, List.getD_eq_getElem?_getD, Int.toNat_natCast, hu]; rfl
    rw [e]
    have hd : decide ((j : Int) < 0) = false := by simp
    have hd2 : decide ((n : Int) ≤ (j : Int)) = false := by simpa using h1
    have hlt' : (j : Int) < (n : Int) := by omega
    clear hc h0 h1 e hu
    go_enter Tryz.func156, Tryz.ntmps156
    go_wp2
    go_ret
    exact ⟨rfl, rfl⟩
def strsOf (ws : List (List UInt8)) : Array Value := (ws.map fun s => Value.string ⟨s.toArray⟩).toArray
theorem strAt_new (w : World) (ws : List (List UInt8)) : StrAt (w.alloc (.cells (strsOf ws) 9)) w.heap.size ws := by
  intro k s hk
  have h : (w.alloc (.cells (strsOf ws) 9)).heap[w.heap.size]? = some (.cells (strsOf ws) 9) := heap_alloc_new _ _
  rw [Lib.cell_of_heap h]
  simp [strsOf, hk]
theorem types_any (w : World) : Calls Tryz.prog 157 #[] w fun e w' => e = .returned (.slice (some ⟨w.heap.size, 0, none⟩) 4 4) ∧ w' = w.alloc (.cells (strsOf typesL) 9) := by
  go_enter Tryz.func157, Tryz.ntmps157
  go_wp2
  go_ret
  exact ⟨rfl, rfl⟩
theorem operators_any (w : World) : Calls Tryz.prog 168 #[] w fun e w' => e = .returned (.slice (some ⟨w.heap.size, 0, none⟩) 12 12) ∧ w' = w.alloc (.cells (strsOf opersL) 9) := by
  go_enter Tryz.func168, Tryz.ntmps168
  go_wp2
  go_ret
  exact ⟨rfl, rfl⟩
theorem type_any (s : ByteArray) (w : World) : Calls Tryz.prog 171 #[.string s] w fun e w' => e = .returned (.int .i64 (placeL typesL s.data.toList : Nat)) ∧ Below w.heap.size w w' := by
  have h2 := place_any s _ w.heap.size 4 typesL (by decide) (strAt_new w typesL)
  go_enter Tryz.func171, Tryz.ntmps171
  go_wp2_with (first | (go_at_call 157; refine (types_any _).mono ?_; rintro e w1 ⟨rfl, rfl⟩) | (go_at_call 180; refine h2.mono ?_; rintro e w2 ⟨rfl, rfl⟩))
  go_ret
  exact ⟨rfl, (Below.refl _ _).alloc (Nat.le_refl _) _⟩
theorem operator_any (s : ByteArray) (w : World) : Calls Tryz.prog 181 #[.string s] w fun e w' => e = .returned (.int .i64 (placeL opersL s.data.toList : Nat)) ∧ Below w.heap.size w w' := by
  have h2 := place_any s _ w.heap.size 12 opersL (by decide) (strAt_new w opersL)
  go_enter Tryz.func181, Tryz.ntmps181
  go_wp2_with (first | (go_at_call 168; refine (operators_any _).mono ?_; rintro e w1 ⟨rfl, rfl⟩) | (go_at_call 180; refine h2.mono ?_; rintro e w2 ⟨rfl, rfl⟩))
  go_ret
  exact ⟨rfl, (Below.refl _ _).alloc (Nat.le_refl _) _⟩
theorem ofType_any (k : Int) (w : World) : Calls Tryz.prog 123 #[.int .i64 k] w fun e w' => e = .returned (.string ⟨(atL typesL k).toArray⟩) ∧ Below w.heap.size w w' := by
  have h2 := at_any k _ w.heap.size 4 typesL (strAt_new w typesL)
  go_enter Tryz.func123, Tryz.ntmps123
  go_wp2_with (first | (go_at_call 157; refine (types_any _).mono ?_; rintro e w1 ⟨rfl, rfl⟩) | (go_at_call 156; refine h2.mono ?_; rintro e w2 ⟨rfl, rfl⟩))
  go_ret
  exact ⟨rfl, (Below.refl _ _).alloc (Nat.le_refl _) _⟩
theorem ofOperator_any (k : Int) (w : World) : Calls Tryz.prog 138 #[.int .i64 k] w fun e w' => e = .returned (.string ⟨(atL opersL k).toArray⟩) ∧ Below w.heap.size w w' := by
  have h2 := at_any k _ w.heap.size 12 opersL (strAt_new w opersL)
  go_enter Tryz.func138, Tryz.ntmps138
  go_wp2_with (first | (go_at_call 168; refine (operators_any _).mono ?_; rintro e w1 ⟨rfl, rfl⟩) | (go_at_call 156; refine h2.mono ?_; rintro e w2 ⟨rfl, rfl⟩))
  go_ret
  exact ⟨rfl, (Below.refl _ _).alloc (Nat.le_refl _) _⟩
theorem St.short {w : World} {base pb : Nat} {v : Value} {T : List Tk} {en : Int} {i : Nat} (h : St w base pb v T en i) : (tx T i).length ≤ 22 := by
  unfold tx
  cases hx : T[i]? with
  | none => simp
  | some x => exact (h.toks x (List.mem_of_getElem? hx)).short
theorem cast1 (i : Nat) : ((i + 1 : Nat) : Int) = (i : Int) + 1 := by omega
theorem name_lt {T : List Tk} {i : Nat} (h : nameW (tx T i) = true) : i < T.length := by
  refine tx_lt ?_
  intro e
  rw [e] at h
  revert h
  decide
theorem name_any {w : World} {base pb : Nat} {v : Value} {T : List Tk} {en : Int} {i : Nat} (h : St w base pb v T en i) :
    Calls Tryz.prog 142 #[.pointer (some ⟨pb, 0, none⟩)] w fun e w' => Out w base pb v T en repS (nameP T i) e w' := by
  have hh := here_any h
  have hsz := h.short
  have hf := h.few
  cases hn : nameW (tx T i)
  · have hr : nameP T i = .bad i := by rw [nameP, if_neg (by simp [hn])]
    rw [hr]
    go_enter Tryz.func142, Tryz.ntmps142
    go_wp2_with (go_at_call 112; refine hh.mono ?_; rintro e w1 ⟨rfl, b1⟩)
    have s1 := h.below b1
    have b2 := (Below.refl w1.heap.size w1).alloc (Nat.le_refl _) (.cells #[.int .i64 (kd T i), .int .i64 (pl T en i), .string ⟨(tx T i).toArray⟩] 63)
    have s2 := s1.below b2
    refine (isName_any _ _ (by rw [size_mk]; omega) s2.gl).mono ?_
    rw [hn]
    rintro e w2 ⟨rfl, b3⟩
    have s3 := s2.below b3
    clear hn hh
    go_wp2_with (go_at_call 57; refine (giveUp_any s3).mono ?_; rintro e w3 ⟨rfl, b4⟩)
    exact ⟨rfl, .mkBad (grown_trans (grown_trans (grown_below b1 _) (grown_below b2 _)) (grown_trans (grown_below b3 _) (grown_below b4 _))) rfl⟩
  · have hr : nameP T i = .ok (tx T i) (i + 1) := by rw [nameP, if_pos hn]
    rw [hr]
    have hlt := name_lt hn
    go_enter Tryz.func142, Tryz.ntmps142
    go_wp2_with (go_at_call 112; refine hh.mono ?_; rintro e w1 ⟨rfl, b1⟩)
    have s1 := h.below b1
    have b2 := (Below.refl w1.heap.size w1).alloc (Nat.le_refl _) (.cells #[.int .i64 (kd T i), .int .i64 (pl T en i), .string ⟨(tx T i).toArray⟩] 63)
    have s2 := s1.below b2
    refine (isName_any _ _ (by rw [size_mk]; omega) s2.gl).mono ?_
    rw [hn]
    rintro e w2 ⟨rfl, b3⟩
    have s3 := s2.below b3
    obtain ⟨⟨c0, c1, c2⟩, f0, f1, f2⟩ := three s3.blk
    have d2 : w2.cell? ⟨w1.heap.size, 2, none⟩ = some (.string ⟨(tx T i).toArray⟩) := (b3.cell (by simp)).trans (by simp)
    have hne : w1.heap.size ≠ pb := by have := (ltS s1.blk); omega
    have s4 := s3.set (i + 1) hlt
    have g4 := grown_trans (grown_trans (grown_below b1 _) (grown_below b2 _)) (grown_trans (grown_below b3 _) (grown_set w2 pb 1 (.int .i64 ((i + 1 : Nat) : Int))))
    rw [cast1] at s4 g4
    clear hn hh
    go_wp2_with fail
    go_ret
    exact .mkOk g4 rfl rfl s4
theorem kindOf_type {w : World} {base pb : Nat} {v : Value} {T : List Tk} {en : Int} {i : Nat} (h : St w base pb v T en i) :
    Calls Tryz.prog 170 #[.pointer (some ⟨pb, 0, none⟩), .func (.func 171) #[] #[]] w fun e w' => Out w base pb v T en repN (kindOf T (placeL typesL) i) e w' := by
  have hh := here_any h
  have h0 : placeL typesL [] = 0 := by decide
  have t2 := tokf2
  have hsz := h.short
  have hfw := h.few
  go_enter Tryz.func170, Tryz.ntmps170
  go_wp2_with (go_at_call 112; refine hh.mono ?_; rintro e w1 ⟨rfl, b1⟩)
  have s1 := h.below b1
  refine (type_any _ _).mono ?_
  rintro e w2 ⟨rfl, b2⟩
  have s2 := s1.below b2
  have g2 : w.grownBy w2 (some pb) := grown_trans (grown_below b1 _) (grown_below b2 _)
  by_cases hn : placeL typesL (tx T i) = 0
  · have HR : Hid (kindOf T (placeL typesL) i = .bad i) := by show _ = _; rw [kindOf, if_pos hn]
    have hz : ((placeL typesL (tx T i) : Nat) : Int) = 0 := by omega
    simp only [hz]
    clear hn hh hz
    go_wp2_with (go_at_call 57; refine (giveUp_any s2).mono ?_; rintro e w3 ⟨rfl, b4⟩)
    exact ⟨rfl, .mkBad (grown_trans g2 (grown_below b4 _)) HR.out⟩
  · have HR : Hid (kindOf T (placeL typesL) i = .ok (placeL typesL (tx T i)) (i + 1)) := by show _ = _; rw [kindOf, if_neg hn]
    have hlt : i < T.length := tx_lt (by intro e; rw [e] at hn; exact hn h0)
    have hz : (((placeL typesL (tx T i) : Nat) : Int) == 0) = false := by simpa using hn
    obtain ⟨⟨c0, c1, c2⟩, f0, f1, f2⟩ := three s2.blk
    have s4 := s2.set (i + 1) hlt
    have g4 := grown_trans g2 (grown_set w2 pb 1 (.int .i64 ((i + 1 : Nat) : Int)))
    rw [cast1] at s4 g4
    clear hn hh h0
    go_wp2_with fail
    go_ret
    exact .mkOk g4 HR.out rfl s4
theorem kindOf_oper {w : World} {base pb : Nat} {v : Value} {T : List Tk} {en : Int} {i : Nat} (h : St w base pb v T en i) :
    Calls Tryz.prog 170 #[.pointer (some ⟨pb, 0, none⟩), .func (.func 181) #[] #[]] w fun e w' => Out w base pb v T en repN (kindOf T (placeL opersL) i) e w' := by
  have hh := here_any h
  have h0 : placeL opersL [] = 0 := by decide
  have t2 := tokf2
  have hsz := h.short
  have hfw := h.few
  go_enter Tryz.func170, Tryz.ntmps170
  go_wp2_with (go_at_call 112; refine hh.mono ?_; rintro e w1 ⟨rfl, b1⟩)
  have s1 := h.below b1
  refine (operator_any _ _).mono ?_
  rintro e w2 ⟨rfl, b2⟩
  have s2 := s1.below b2
  have g2 : w.grownBy w2 (some pb) := grown_trans (grown_below b1 _) (grown_below b2 _)
  by_cases hn : placeL opersL (tx T i) = 0
  · have HR : Hid (kindOf T (placeL opersL) i = .bad i) := by show _ = _; rw [kindOf, if_pos hn]
    have hz : ((placeL opersL (tx T i) : Nat) : Int) = 0 := by omega
    simp only [hz]
    clear hn hh hz
    go_wp2_with (go_at_call 57; refine (giveUp_any s2).mono ?_; rintro e w3 ⟨rfl, b4⟩)
    exact ⟨rfl, .mkBad (grown_trans g2 (grown_below b4 _)) HR.out⟩
  · have HR : Hid (kindOf T (placeL opersL) i = .ok (placeL opersL (tx T i)) (i + 1)) := by show _ = _; rw [kindOf, if_neg hn]
    have hlt : i < T.length := tx_lt (by intro e; rw [e] at hn; exact hn h0)
    have hz : (((placeL opersL (tx T i) : Nat) : Int) == 0) = false := by simpa using hn
    obtain ⟨⟨c0, c1, c2⟩, f0, f1, f2⟩ := three s2.blk
    have s4 := s2.set (i + 1) hlt
    have g4 := grown_trans g2 (grown_set w2 pb 1 (.int .i64 ((i + 1 : Nat) : Int)))
    rw [cast1] at s4 g4
    clear hn hh h0
    go_wp2_with fail
    go_ret
    exact .mkOk g4 HR.out rfl s4
theorem num_ok {T : List Tk} (hT : ∀ x ∈ T, TokOk x) {i : Nat} (hk : kd T i = 2) : tx T i ≠ [] ∧ (tx T i).length ≤ 9 ∧ ∀ c ∈ tx T i, isD c = true := by
  unfold kd at hk
  unfold tx
  cases hx : T[i]? with
  | none => rw [hx] at hk; cases hk
  | some x => rw [hx] at hk; exact (hT x (List.mem_of_getElem? hx)).num hk
theorem number_any {w : World} {base pb : Nat} {v : Value} {T : List Tk} {en : Int} {i : Nat} (h : St w base pb v T en i) (least : Nat) :
    Calls Tryz.prog 152 #[.pointer (some ⟨pb, 0, none⟩), .int .i64 (least : Int)] w fun e w' => Out w base pb v T en repN (numberP T least i) e w' := by
  have hh := here_any h
  have hsz := h.short
  have hfw := h.few
  have hnum := num_ok h.toks (i := i)
  go_enter Tryz.func152, Tryz.ntmps152
  go_wp2_with (go_at_call 112; refine hh.mono ?_; rintro e w1 ⟨rfl, b1⟩)
  have s1 := h.below b1
  have b2 := (Below.refl w1.heap.size w1).alloc (Nat.le_refl _) (.cells #[.int .i64 (kd T i), .int .i64 (pl T en i), .string ⟨(tx T i).toArray⟩] 63)
  have s2 := s1.below b2
  refine (atoi_any _ _ (by rw [size_mk]; omega) s2.gl).mono ?_
  rintro e w2 ⟨⟨x, rfl⟩, b3⟩
  have s3 := s2.below b3
  have d0 : w2.cell? ⟨w1.heap.size, 0, none⟩ = some (.int .i64 (kd T i)) := (b3.cell (by simp)).trans (by simp)
  have g3 := grown_trans (grown_trans (grown_below b1 (some pb)) (grown_below b2 _)) (grown_below b3 _)
  have e0 : (⟨(tx T i).toArray⟩ : ByteArray).data.toList = tx T i := by simp
  rw [e0]
  clear b2 s2 b3
  by_cases hk : kd T i = 2
  · obtain ⟨n0, n9, nd⟩ := hnum hk
    rw [atoiV_digits _ n0 n9 nd]
    have hlt : i < T.length := tx_lt n0
    have hz : (kd T i != 2) = false := by simp [hk]
    clear n0 n9 nd hnum e0
    by_cases hl : least ≤ decN (tx T i)
    · have HR : Hid (numberP T least i = .ok (decN (tx T i)) (i + 1)) := by show _ = _; rw [numberP, if_pos ⟨hk, hl⟩]
      obtain ⟨⟨c0, c1, c2⟩, f0, f1, f2⟩ := three s3.blk
      have s4 := s3.set (i + 1) hlt
      have g4 := grown_trans g3 (grown_set w2 pb 1 (.int .i64 ((i + 1 : Nat) : Int)))
      rw [cast1] at s4 g4
      have hl2 : ¬ decN (tx T i) < least := by omega
      clear hh hk hl
      go_wp2_with fail
      go_ret
      exact .mkOk g4 HR.out rfl s4
    · have HR : Hid (numberP T least i = .bad i) := by show _ = _; rw [numberP, if_neg (by simp [hl])]
      have hl2 : decN (tx T i) < least := by omega
      clear hh hk hl
      go_wp2_with (go_at_call 57; refine (giveUp_any s3).mono ?_; rintro e w3 ⟨rfl, b4⟩)
      exact ⟨rfl, .mkBad (grown_trans g3 (grown_below b4 _)) HR.out⟩
  · have HR : Hid (numberP T least i = .bad i) := by show _ = _; rw [numberP, if_neg (by simp [hk])]
    have hz : (kd T i != 2) = true := by simpa using hk
    clear hh hk hnum e0
    go_wp2_with (go_at_call 57; refine (giveUp_any s3).mono ?_; rintro e w3 ⟨rfl, b4⟩)
    exact ⟨rfl, .mkBad (grown_trans g3 (grown_below b4 _)) HR.out⟩
theorem grown_put {w w' : World} {r : Option Nat} (h : w.grownBy w' r) {b : Nat} (hb : w.heap.size ≤ b) (o : Nat) (x : Value) : w.grownBy (w'.setCell ⟨b, o, none⟩ x) r :=
  ⟨h.os, h.tape, h.output, by simpa [World.setCell] using h.size, fun k hk hr => (heap_setCell_other w' ⟨b, o, none⟩ k x (by simp only; omega)).trans (h.block k hk hr)⟩
theorem grown_alloc {w w' : World} {r : Option Nat} (h : w.grownBy w' r) (o : Obj) : w.grownBy (w'.alloc o) r :=
  grown_trans h (grown_below ((Below.refl _ _).alloc (Nat.le_refl _) o) r)
theorem St.fresh {w : World} {base pb : Nat} {v : Value} {T : List Tk} {en : Int} {i : Nat} (h : St w base pb v T en i) {b : Nat} (hb : w.heap.size ≤ b) : b ≠ pb ∧ v.ownBlock ≠ some b ∧ 6 ≤ b := by
  refine ⟨?_, ?_, Nat.le_trans h.gl.sz hb⟩
  · have := (ltS h.blk); omega
  · rcases h.own.2 with ⟨hv, -⟩ | ⟨g, cap, cur, hv, -, hg, -⟩
    · rw [hv]; simp [Value.ownBlock]
    · rw [hv]
      have := (ltS hg)
      simp only [Value.ownBlock, ne_eq, Option.some.injEq]
      omega
theorem St.put {w : World} {base pb : Nat} {v : Value} {T : List Tk} {en : Int} {i : Nat} (h : St w base pb v T en i) {b : Nat} (hb : b ≠ pb ∧ v.ownBlock ≠ some b ∧ 6 ≤ b) (o : Nat) (x : Value) : St (w.setCell ⟨b, o, none⟩ x) base pb v T en i :=
  ⟨(heap_setCell_other w ⟨b, o, none⟩ pb x (Ne.symm hb.1)).trans h.blk, h.own.kept (grown_set w b o x) (.inr hb.2.1), h.ne, h.le, h.few, h.six, h.gl.grown hb.2.2 (grown_set w b o x), h.toks⟩
theorem St.alloc {w : World} {base pb : Nat} {v : Value} {T : List Tk} {en : Int} {i : Nat} (h : St w base pb v T en i) (o : Obj) : St (w.alloc o) base pb v T en i := h.below ((Below.refl _ _).alloc (Nat.le_refl _) o)
theorem two {W : World} {b : Nat} {x y : Value} {t : TypeId} (h : W.heap[b]? = some (.cells #[x, y] t)) :
    (W.cell? ⟨b, 0, none⟩ = some x ∧ W.cell? ⟨b, 1, none⟩ = some y) ∧ (W.frozen? ⟨b, 0, none⟩ = false ∧ W.frozen? ⟨b, 1, none⟩ = false) := by
  refine ⟨⟨?_, ?_⟩, Lib.frozen_of_heap h 0, Lib.frozen_of_heap h 1⟩
  · rw [Lib.cell_of_heap h]; rfl
  · rw [Lib.cell_of_heap h]; rfl
theorem two_put {W : World} {b : Nat} {x y : Value} {t : TypeId} (h : W.heap[b]? = some (.cells #[x, y] t)) (x' y' : Value) :
    ((W.setCell ⟨b, 0, none⟩ x').setCell ⟨b, 1, none⟩ y').heap[b]? = some (.cells #[x', y'] t) :=
  heap_setCell_same _ b 1 _ t y' (heap_setCell_same W b 0 _ t x' h)
theorem three_put {W : World} {b : Nat} {x y z : Value} {t : TypeId} (h : W.heap[b]? = some (.cells #[x, y, z] t)) (x' y' z' : Value) :
    (((W.setCell ⟨b, 0, none⟩ x').setCell ⟨b, 1, none⟩ y').setCell ⟨b, 2, none⟩ z').heap[b]? = some (.cells #[x', y', z'] t) :=
  heap_setCell_same _ b 2 _ t z' (heap_setCell_same _ b 1 _ t y' (heap_setCell_same W b 0 _ t x' h))
def clV (c : Cl) : Value := .agg #[.string ⟨c.name.toArray⟩, .int .i64 c.ty]
def vlV (x : Vl) : Value := .agg #[.int .i64 x.k, .int .i64 x.n, .string ⟨x.s.toArray⟩]
def repC (_ : World) (u : Value) (c : Cl) : Prop := u = clV c
def repV (_ : World) (u : Value) (x : Vl) : Prop := u = vlV x
theorem column_any {w : World} {base pb : Nat} {v : Value} {T : List Tk} {en : Int} {i : Nat} (h : St w base pb v T en i) :
    Calls Tryz.prog 144 #[.pointer (some ⟨pb, 0, none⟩)] w fun e w' => Out w base pb v T en repC (columnP T i) e w' := by
  have hfr := h.fresh (Nat.le_refl _)
  have s0 := h.alloc (.cells #[.string ⟨#[]⟩, .int .i64 0] 56)
  have g0 := grown_alloc (grown_refl w (some pb)) (.cells #[.string ⟨#[]⟩, .int .i64 0] 56)
  have k0 : (w.alloc (.cells #[.string ⟨#[]⟩, .int .i64 0] 56)).heap[w.heap.size]? = some (.cells #[.string ⟨#[]⟩, .int .i64 0] 56) := heap_alloc_new _ _
  go_enter Tryz.func144, Tryz.ntmps144
  go_wp2_with fail
  refine (name_any s0).mono ?_
  intro e w1 o1
  have g1 := grown_trans g0 o1.grown
  cases hn : nameP T i with
  | bad j =>
    obtain rfl := o1.bad j hn
    exact ⟨rfl, .mkBad g1 (by simp [columnP, hn])⟩
  | ok s j =>
    obtain ⟨u, rfl, hu, s1⟩ := o1.ok s j hn
    cases hu
    have k1 := (o1.grown.block w.heap.size (by simp) (by simpa using hfr.1)).trans k0
    have HN : Hid (nameP T i = .ok s j) := hn
    clear hn o1 k0 g0 s0
    go_wp2_with fail
    refine (kindOf_type s1).mono ?_
    intro e w2 o2
    have g2 := grown_trans g1 o2.grown
    cases hk : kindOf T (placeL typesL) j with
    | bad j2 =>
      obtain rfl := o2.bad j2 hk
      exact ⟨rfl, .mkBad g2 (by simp [columnP, HN.out, hk])⟩
    | ok k j2 =>
      obtain ⟨u, rfl, hu, s2⟩ := o2.ok k j2 hk
      cases hu
      have k2 := (o2.grown.block w.heap.size (by have := g1.size; have := (ltS k1); omega) (by simpa using hfr.1)).trans k1
      have HR : Hid (columnP T i = .ok ⟨s, (k : Nat)⟩ j2) := by show _ = _; simp [columnP, HN.out, hk]
      obtain ⟨⟨c0, c1⟩, f0, f1⟩ := two k2
      have k3 := two_put k2 (.string ⟨s.toArray⟩) (.int .i64 (k : Int))
      have s3 := (s2.put hfr 0 (.string ⟨s.toArray⟩)).put hfr 1 (.int .i64 (k : Int))
      have g3 := grown_put (grown_put g2 (Nat.le_refl _) 0 (.string ⟨s.toArray⟩)) (Nat.le_refl _) 1 (.int .i64 (k : Int))
      clear hk o2 k1 k2 HN g1 s1 s2 g2
      go_wp2_with fail
      generalize (w2.setCell ⟨w.heap.size, 0, none⟩ (.string ⟨s.toArray⟩)).setCell ⟨w.heap.size, 1, none⟩ (.int .i64 (k : Int)) = w3 at *
      obtain ⟨⟨e0, e1⟩, -⟩ := two k3
      refine bodyPost_ret (v := clV ⟨s, (k : Nat)⟩) ?_ rfl (.mkOk g3 HR.out rfl s3)
      simp [results, Tryz.results144, go_sem, clV, e0, e1]
theorem value_num {w : World} {base pb : Nat} {v : Value} {T : List Tk} {en : Int} {i : Nat} (h : St w base pb v T en i) (hk : kd T i = 2) :
    Calls Tryz.prog 146 #[.pointer (some ⟨pb, 0, none⟩)] w fun e w' => Out w base pb v T en repV (valueP T i) e w' := by
  have hh := here_any (h.alloc (.cells #[.int .i64 0, .int .i64 0, .string ⟨#[]⟩] 24))
  have hfr := h.fresh (Nat.le_refl _)
  have s0 := h.alloc (.cells #[.int .i64 0, .int .i64 0, .string ⟨#[]⟩] 24)
  have g0 := grown_alloc (grown_refl w (some pb)) (.cells #[.int .i64 0, .int .i64 0, .string ⟨#[]⟩] 24)
  have k0 : (w.alloc (.cells #[.int .i64 0, .int .i64 0, .string ⟨#[]⟩] 24)).heap[w.heap.size]? = some (.cells #[.int .i64 0, .int .i64 0, .string ⟨#[]⟩] 24) := heap_alloc_new _ _
  rw [hk] at hh
  have hsz := h.short
  have hfw := h.few
  go_enter Tryz.func146, Tryz.ntmps146
  go_wp2_with (go_at_call 112; refine hh.mono ?_; rintro e w1 ⟨rfl, b1⟩)
  have s1 := (s0.below b1).alloc (.cells #[.int .i64 2, .int .i64 (pl T en i), .string ⟨(tx T i).toArray⟩] 63)
  have g1 := grown_alloc (grown_trans g0 (grown_below b1 _)) (.cells #[.int .i64 2, .int .i64 (pl T en i), .string ⟨(tx T i).toArray⟩] 63)
  have k1 : (w1.alloc (.cells #[.int .i64 2, .int .i64 (pl T en i), .string ⟨(tx T i).toArray⟩] 63)).heap[w.heap.size]? = some (.cells #[.int .i64 0, .int .i64 0, .string ⟨#[]⟩] 24) :=
    (((Below.refl _ _).alloc (Nat.le_refl _) _).block _ (by have := b1.size; simp at this; omega)).trans ((b1.block _ (by simp)).trans k0)
  clear hh b1 k0 g0 s0
  refine (number_any s1 0).mono ?_
  intro e w2 o2
  have g2 := grown_trans g1 o2.grown
  cases hn : numberP T 0 i with
  | bad j =>
    obtain rfl := o2.bad j hn
    exact ⟨rfl, .mkBad g2 (by simp [valueP, hk, hn])⟩
  | ok n j =>
    obtain ⟨u, rfl, hu, s2⟩ := o2.ok n j hn
    cases hu
    have k2 := (o2.grown.block w.heap.size (ltS k1) (by simpa using hfr.1)).trans k1
    have HR : Hid (valueP T i = .ok ⟨1, (n : Nat), []⟩ j) := by show _ = _; simp [valueP, hk, hn]
    obtain ⟨⟨c0, c1, c2⟩, f0, f1, f2⟩ := three k2
    have kz := three_put k2 (.int .i64 1) (.int .i64 (n : Int)) (.string ⟨#[]⟩)
    have sz := ((s2.put hfr 0 (.int .i64 1)).put hfr 1 (.int .i64 (n : Int))).put hfr 2 (.string ⟨#[]⟩)
    have gz := grown_put (grown_put (grown_put g2 (Nat.le_refl _) 0 (.int .i64 1)) (Nat.le_refl _) 1 (.int .i64 (n : Int))) (Nat.le_refl _) 2 (.string ⟨#[]⟩)
    clear hn o2 k1 k2 g1 g2 s1 s2 hk
    go_wp2_with fail
    generalize ((w2.setCell ⟨w.heap.size, 0, none⟩ (.int .i64 1)).setCell ⟨w.heap.size, 1, none⟩ (.int .i64 (n : Int))).setCell ⟨w.heap.size, 2, none⟩ (.string ⟨#[]⟩) = wz at *
    obtain ⟨⟨e0, e1, e2⟩, -⟩ := three kz
    refine bodyPost_ret (v := vlV ⟨1, (n : Nat), []⟩) ?_ rfl (.mkOk gz HR.out rfl sz)
    simp [results, Tryz.results146, go_sem, vlV, e0, e1, e2]
theorem txt_ok {T : List Tk} (hT : ∀ x ∈ T, TokOk x) {i : Nat} (hk : kd T i = 3) : 2 ≤ (tx T i).length := by
  unfold kd at hk
  unfold tx
  cases hx : T[i]? with
  | none => rw [hx] at hk; cases hk
  | some x => rw [hx] at hk; exact (hT x (List.mem_of_getElem? hx)).txt hk
theorem inner (l : List UInt8) (a b : Nat) : (⟨l.toArray⟩ : ByteArray).extract a b = ⟨((l.drop a).take (b - a)).toArray⟩ := by
  have h : ((⟨l.toArray⟩ : ByteArray).extract a b).data = ((l.drop a).take (b - a)).toArray := by
    rw [ByteArray.data_extract]; simp
  rw [← h]
theorem value_txt {w : World} {base pb : Nat} {v : Value} {T : List Tk} {en : Int} {i : Nat} (h : St w base pb v T en i) (hk : kd T i = 3) :
    Calls Tryz.prog 146 #[.pointer (some ⟨pb, 0, none⟩)] w fun e w' => Out w base pb v T en repV (valueP T i) e w' := by
  have hh := here_any (h.alloc (.cells #[.int .i64 0, .int .i64 0, .string ⟨#[]⟩] 24))
  have hfr := h.fresh (Nat.le_refl _)
  have s0 := h.alloc (.cells #[.int .i64 0, .int .i64 0, .string ⟨#[]⟩] 24)
  have g0 := grown_alloc (grown_refl w (some pb)) (.cells #[.int .i64 0, .int .i64 0, .string ⟨#[]⟩] 24)
  have k0 : (w.alloc (.cells #[.int .i64 0, .int .i64 0, .string ⟨#[]⟩] 24)).heap[w.heap.size]? = some (.cells #[.int .i64 0, .int .i64 0, .string ⟨#[]⟩] 24) := heap_alloc_new _ _
  rw [hk] at hh
  have hlen := txt_ok h.toks hk
  have hlt : i < T.length := tx_lt (by intro e; rw [e] at hlen; simp at hlen)
  have hbs := size_mk (tx T i)
  have HR : Hid (valueP T i = .ok ⟨2, 0, ((tx T i).drop 1).take ((tx T i).length - 2)⟩ (i + 1)) := by show _ = _; simp [valueP, hk]
  have hsz := h.short
  have hfw := h.few
  go_enter Tryz.func146, Tryz.ntmps146
  go_wp2_with (go_at_call 112; refine hh.mono ?_; rintro e w1 ⟨rfl, b1⟩; have s1 := s0.below b1; have D1 := fun o => (three (s1.alloc o).blk).1.2.1; have F1 := fun o => (three (s1.alloc o).blk).2.2.1; have hz1 : w1.heap.size ≠ pb := (s1.fresh (Nat.le_refl _)).1; have hz2 : w.heap.size < w1.heap.size := (by have := b1.size; simp at this; omega); have hz3 := hfr.1; have K := fun o => (((Below.refl w1.heap.size w1).alloc (Nat.le_refl _) o).block _ hz2).trans ((b1.block _ (by simp)).trans k0); have E0 := fun o => (three (K o)).1.1; have E1 := fun o => (three (K o)).1.2.1; have E2 := fun o => (three (K o)).1.2.2; have G0 := fun o => (three (K o)).2.1; have G1 := fun o => (three (K o)).2.2.1; have G2 := fun o => (three (K o)).2.2.2)
  rw [inner, show (tx T i).length - 1 - 1 = (tx T i).length - 2 by omega]
  have s2 := (s1.alloc (.cells #[.int .i64 3, .int .i64 (pl T en i), .string ⟨(tx T i).toArray⟩] 63)).set (i + 1) hlt
  have g2 := grown_trans (grown_alloc (grown_trans g0 (grown_below b1 _)) (.cells #[.int .i64 3, .int .i64 (pl T en i), .string ⟨(tx T i).toArray⟩] 63)) (grown_set _ pb 1 (.int .i64 ((i + 1 : Nat) : Int)))
  have k2 := (heap_setCell_other (w1.alloc (.cells #[.int .i64 3, .int .i64 (pl T en i), .string ⟨(tx T i).toArray⟩] 63)) ⟨pb, 1, none⟩ w.heap.size (.int .i64 ((i + 1 : Nat) : Int)) hz3).trans (K _)
  rw [cast1] at s2 g2 k2
  have kz := three_put k2 (.int .i64 2) (.int .i64 0) (.string ⟨(((tx T i).drop 1).take ((tx T i).length - 2)).toArray⟩)
  have sz := ((s2.put hfr 0 (.int .i64 2)).put hfr 1 (.int .i64 0)).put hfr 2 (.string ⟨(((tx T i).drop 1).take ((tx T i).length - 2)).toArray⟩)
  have gz := grown_put (grown_put (grown_put g2 (Nat.le_refl _) 0 (.int .i64 2)) (Nat.le_refl _) 1 (.int .i64 0)) (Nat.le_refl _) 2 (.string ⟨(((tx T i).drop 1).take ((tx T i).length - 2)).toArray⟩)
  generalize ((((w1.alloc (.cells #[.int .i64 3, .int .i64 (pl T en i), .string ⟨(tx T i).toArray⟩] 63)).setCell ⟨pb, 1, none⟩ (.int .i64 ((i : Int) + 1))).setCell ⟨w.heap.size, 0, none⟩ (.int .i64 2)).setCell ⟨w.heap.size, 1, none⟩ (.int .i64 0)).setCell ⟨w.heap.size, 2, none⟩ (.string ⟨(((tx T i).drop 1).take ((tx T i).length - 2)).toArray⟩) = wz at *
  obtain ⟨⟨e0, e1, e2⟩, -⟩ := three kz
  refine bodyPost_ret (v := vlV ⟨2, 0, ((tx T i).drop 1).take ((tx T i).length - 2)⟩) ?_ rfl (.mkOk gz HR.out rfl sz)
  simp [results, Tryz.results146, go_sem, vlV, e0, e1, e2]
theorem St.heapLt {w : World} {base pb : Nat} {v : Value} {T : List Tk} {en : Int} {i : Nat} (h : St w base pb v T en i) : pb < w.heap.size := (ltS h.blk)
theorem Out.back {α : Type} {W W' : World} {base pb : Nat} {v : Value} {T : List Tk} {en : Int} {rep : World → Value → α → Prop} {r : Rs α} {e : Ending} {w' : World} (h : Out W' base pb v T en rep r e w') (hg : W.grownBy W' (some pb)) : Out W base pb v T en rep r e w' :=
  ⟨grown_trans hg h.grown, h.ok, h.bad⟩
theorem oneOf_new {W : World} {base pb : Nat} {v : Value} {T : List Tk} {en : Int} {i : Nat} (h : St W base pb v T en i) (ws : List (List UInt8)) (n b : Nat) (hb : b = W.heap.size) (lit : Array Value) (hl : lit = strsOf ws) (hn : ws.length = n) (h1 : n ≤ 100) (h0 : ∀ s ∈ ws, s ≠ []) :
    Calls Tryz.prog 104 #[.pointer (some ⟨pb, 0, none⟩), .slice (some ⟨b, 0, none⟩) n n] (W.alloc (.cells lit 9)) fun e w' => Out W base pb v T en repS (oneOf T ws i) e w' := by
  subst hl hn hb
  exact (oneOf_some (h.alloc _) W.heap.size ws.length ws (h.fresh (Nat.le_refl _)).1 (by simp) h1 (strAt_new W ws) h0).mono fun e w' o => o.back (grown_alloc (grown_refl W _) _)
theorem must_new {W : World} {base pb : Nat} {v : Value} {T : List Tk} {en : Int} {i : Nat} (h : St W base pb v T en i) (ws : List (List UInt8)) (n b : Nat) (hb : b = W.heap.size) (lit : Array Value) (hl : lit = strsOf ws) (hn : ws.length = n) (h1 : n ≤ 100) (h0 : ∀ s ∈ ws, s ≠ []) :
    Calls Tryz.prog 145 #[.pointer (some ⟨pb, 0, none⟩), .slice (some ⟨b, 0, none⟩) n n] (W.alloc (.cells lit 9)) fun e w' => Out W base pb v T en repU (must T ws i) e w' := by
  subst hl hn hb
  exact (must_some (h.alloc _) W.heap.size ws.length ws (h.fresh (Nat.le_refl _)).1 (by simp) h1 (strAt_new W ws) h0).mono fun e w' o => o.back (grown_alloc (grown_refl W _) _)
theorem may_new {W : World} {base pb : Nat} {v : Value} {T : List Tk} {en : Int} {i : Nat} (h : St W base pb v T en i) (s : List UInt8) (hs : s ≠ []) (ws : List (List UInt8)) (n b : Nat) (hb : b = W.heap.size) (lit : Array Value) (hl : lit = strsOf ws) (hn : ws.length = n) (h1 : n ≤ 100) (h0 : ∀ s ∈ ws, s ≠ []) :
    Calls Tryz.prog 141 #[.pointer (some ⟨pb, 0, none⟩), .string ⟨s.toArray⟩, .slice (some ⟨b, 0, none⟩) n n] (W.alloc (.cells lit 9)) fun e w' => Out W base pb v T en repB (may T s ws i) e w' := by
  subst hl hn hb
  exact (may_any (h.alloc _) s hs _ ws (.inr ⟨W.heap.size, _, rfl, (h.fresh (Nat.le_refl _)).1, by simp, strAt_new W ws⟩) h1 h0).mono fun e w' o => o.back (grown_alloc (grown_refl W _) _)
theorem may_one {W : World} {base pb : Nat} {v : Value} {T : List Tk} {en : Int} {i : Nat} (h : St W base pb v T en i) (s : List UInt8) (hs : s ≠ []) :
    Calls Tryz.prog 141 #[.pointer (some ⟨pb, 0, none⟩), .string ⟨s.toArray⟩, .slice none 0 0] W fun e w' => Out W base pb v T en repB (may T s [] i) e w' :=
  may_any h s hs _ [] (.inl ⟨rfl, rfl⟩) (by decide) (by simp)
theorem oneOf_mem (T : List Tk) (i : Nat) (s : List UInt8) (j : Nat) : ∀ ws, oneOf T ws i = .ok s j → s ∈ ws := by
  intro ws
  induction ws with
  | nil => intro h; cases h
  | cons x r ih =>
    intro h
    rw [oneOf] at h
    split at h
    · cases h; exact List.mem_cons_self ..
    · exact List.mem_cons_of_mem _ (ih h)
theorem number_lt {T : List Tk} (hT : ∀ x ∈ T, TokOk x) {least i n j : Nat} (h : numberP T least i = .ok n j) : n < 1000000000 := by
  rw [numberP] at h
  split at h
  · rename_i hk
    cases h
    obtain ⟨-, h9, hd⟩ := num_ok hT hk.1
    exact Nat.lt_of_lt_of_le (decN_lt _ hd) (Nat.pow_le_pow_right (by decide) h9)
  · cases h
theorem value_sign {w : World} {base pb : Nat} {v : Value} {T : List Tk} {en : Int} {i : Nat} (h : St w base pb v T en i) (hk2 : kd T i ≠ 2) (hk3 : kd T i ≠ 3) :
    Calls Tryz.prog 146 #[.pointer (some ⟨pb, 0, none⟩)] w fun e w' => Out w base pb v T en repV (valueP T i) e w' := by
  have hh := here_any (h.alloc (.cells #[.int .i64 0, .int .i64 0, .string ⟨#[]⟩] 24))
  have hfr := h.fresh (Nat.le_refl _)
  have s0 := h.alloc (.cells #[.int .i64 0, .int .i64 0, .string ⟨#[]⟩] 24)
  have g0 := grown_alloc (grown_refl w (some pb)) (.cells #[.int .i64 0, .int .i64 0, .string ⟨#[]⟩] 24)
  have k0 : (w.alloc (.cells #[.int .i64 0, .int .i64 0, .string ⟨#[]⟩] 24)).heap[w.heap.size]? = some (.cells #[.int .i64 0, .int .i64 0, .string ⟨#[]⟩] 24) := heap_alloc_new _ _
  have q2 : (kd T i == 2) = false := by simpa using hk2
  have q3 : (kd T i == 3) = false := by simpa using hk3
  have HV : Hid (valueP T i = (oneOf T [[45], w_true, w_false, w_null] i).then fun s j =>
    if s = [45] then (numberP T 1 j).then fun n j => .ok ⟨1, -(n : Nat), []⟩ j
    else if s = w_true then .ok ⟨3, 1, []⟩ j
    else if s = w_false then .ok ⟨3, 0, []⟩ j
    else .ok vl0 j) := by show _ = _; rw [valueP, if_neg hk2, if_neg hk3]
  have htk := h.toks
  clear hk2 hk3
  go_enter Tryz.func146, Tryz.ntmps146
  go_wp2_with (go_at_call 112; refine hh.mono ?_; rintro e w1 ⟨rfl, b1⟩)
  have s1 := (s0.below b1).alloc (.cells #[.int .i64 (kd T i), .int .i64 (pl T en i), .string ⟨(tx T i).toArray⟩] 63)
  have g1 := grown_alloc (grown_trans g0 (grown_below b1 _)) (.cells #[.int .i64 (kd T i), .int .i64 (pl T en i), .string ⟨(tx T i).toArray⟩] 63)
  have k1 : (w1.alloc (.cells #[.int .i64 (kd T i), .int .i64 (pl T en i), .string ⟨(tx T i).toArray⟩] 63)).heap[w.heap.size]? = some (.cells #[.int .i64 0, .int .i64 0, .string ⟨#[]⟩] 24) :=
    (((Below.refl _ _).alloc (Nat.le_refl _) _).block _ (by have := b1.size; simp at this; omega)).trans ((b1.block _ (by simp)).trans k0)
  clear hh b1 k0 g0 s0
  refine (oneOf_new s1 [[45], w_true, w_false, w_null] 4 _ (by simp) _ (by rfl) (by rfl) (by decide) (by decide)).mono ?_
  intro e w2 o2
  have g2 := grown_trans g1 o2.grown
  have h2 := HV.out
  clear HV
  cases hn : oneOf T [[45], w_true, w_false, w_null] i with
  | bad j =>
    obtain rfl := o2.bad j hn
    rw [hn, Rs.then_bad] at h2
    exact ⟨rfl, .mkBad g2 h2⟩
  | ok s j =>
    obtain ⟨u, rfl, hu, s2⟩ := o2.ok s j hn
    cases hu
    have k2 := (o2.grown.block w.heap.size (ltS k1) (by simpa using hfr.1)).trans k1
    have hm := oneOf_mem T i s j _ hn
    rw [hn, Rs.then_ok] at h2
    clear hn o2 k1 s1 g1
    simp only [List.mem_cons, List.not_mem_nil, or_false] at hm
    rcases hm with rfl | rfl | rfl | rfl
    · rw [if_pos rfl] at h2
      have HV : Hid (valueP T i = (numberP T 1 j).then fun n j => .ok ⟨1, -(n : Nat), []⟩ j) := h2
      clear h2
      go_wp2_with fail
      refine (number_any s2 1).mono ?_
      intro e w3 o3
      have g3 := grown_trans g2 o3.grown
      have h3 := HV.out
      clear HV
      cases hn : numberP T 1 j with
      | bad j3 =>
        obtain rfl := o3.bad j3 hn
        rw [hn, Rs.then_bad] at h3
        exact ⟨rfl, .mkBad g3 h3⟩
      | ok n j3 =>
        obtain ⟨u, rfl, hu, s3⟩ := o3.ok n j3 hn
        cases hu
        have k3 := (o3.grown.block w.heap.size (ltS k2) (by simpa using hfr.1)).trans k2
        have hlt := number_lt htk hn
        rw [hn, Rs.then_ok] at h3
        have HV : Hid (valueP T i = .ok ⟨1, -(n : Nat), []⟩ j3) := h3
        obtain ⟨⟨c0, c1, c2⟩, f0, f1, f2⟩ := three k3
        have kz := three_put k3 (.int .i64 1) (.int .i64 (-(n : Int))) (.string ⟨#[]⟩)
        have sz := ((s3.put hfr 0 (.int .i64 1)).put hfr 1 (.int .i64 (-(n : Int)))).put hfr 2 (.string ⟨#[]⟩)
        have gz := grown_put (grown_put (grown_put g3 (Nat.le_refl _) 0 (.int .i64 1)) (Nat.le_refl _) 1 (.int .i64 (-(n : Int)))) (Nat.le_refl _) 2 (.string ⟨#[]⟩)
        clear hn o3 k2 k3 s2 s3 g2 g3 h3
        go_wp2_with fail
        generalize ((w3.setCell ⟨w.heap.size, 0, none⟩ (.int .i64 1)).setCell ⟨w.heap.size, 1, none⟩ (.int .i64 (-(n : Int)))).setCell ⟨w.heap.size, 2, none⟩ (.string ⟨#[]⟩) = wz at *
        obtain ⟨⟨e0, e1, e2⟩, -⟩ := three kz
        refine bodyPost_ret (v := vlV ⟨1, -(n : Nat), []⟩) ?_ rfl (.mkOk gz HV.out rfl sz)
        simp [results, Tryz.results146, go_sem, vlV, e0, e1, e2]
    · rw [if_neg (by decide), if_pos rfl] at h2
      have HV : Hid (valueP T i = .ok ⟨3, 1, []⟩ j) := h2
      obtain ⟨⟨c0, c1, c2⟩, f0, f1, f2⟩ := three k2
      have kz := three_put k2 (.int .i64 3) (.int .i64 1) (.string ⟨#[]⟩)
      have sz := ((s2.put hfr 0 (.int .i64 3)).put hfr 1 (.int .i64 1)).put hfr 2 (.string ⟨#[]⟩)
      have gz := grown_put (grown_put (grown_put g2 (Nat.le_refl _) 0 (.int .i64 3)) (Nat.le_refl _) 1 (.int .i64 1)) (Nat.le_refl _) 2 (.string ⟨#[]⟩)
      clear h2 k2 s2 g2
      go_wp2_with fail
      generalize ((w2.setCell ⟨w.heap.size, 0, none⟩ (.int .i64 3)).setCell ⟨w.heap.size, 1, none⟩ (.int .i64 1)).setCell ⟨w.heap.size, 2, none⟩ (.string ⟨#[]⟩) = wz at *
      obtain ⟨⟨e0, e1, e2⟩, -⟩ := three kz
      refine bodyPost_ret (v := vlV ⟨3, 1, []⟩) ?_ rfl (.mkOk gz HV.out rfl sz)
      simp [results, Tryz.results146, go_sem, vlV, e0, e1, e2]
    · rw [if_neg (by decide), if_neg (by decide), if_pos rfl] at h2
      have HV : Hid (valueP T i = .ok ⟨3, 0, []⟩ j) := h2
      obtain ⟨⟨c0, c1, c2⟩, f0, f1, f2⟩ := three k2
      have kz := three_put k2 (.int .i64 3) (.int .i64 0) (.string ⟨#[]⟩)
      have sz := ((s2.put hfr 0 (.int .i64 3)).put hfr 1 (.int .i64 0)).put hfr 2 (.string ⟨#[]⟩)
      have gz := grown_put (grown_put (grown_put g2 (Nat.le_refl _) 0 (.int .i64 3)) (Nat.le_refl _) 1 (.int .i64 0)) (Nat.le_refl _) 2 (.string ⟨#[]⟩)
      clear h2 k2 s2 g2
      go_wp2_with fail
      generalize ((w2.setCell ⟨w.heap.size, 0, none⟩ (.int .i64 3)).setCell ⟨w.heap.size, 1, none⟩ (.int .i64 0)).setCell ⟨w.heap.size, 2, none⟩ (.string ⟨#[]⟩) = wz at *
      obtain ⟨⟨e0, e1, e2⟩, -⟩ := three kz
      refine bodyPost_ret (v := vlV ⟨3, 0, []⟩) ?_ rfl (.mkOk gz HV.out rfl sz)
      simp [results, Tryz.results146, go_sem, vlV, e0, e1, e2]
    · rw [if_neg (by decide), if_neg (by decide), if_neg (by decide)] at h2
      have HV : Hid (valueP T i = .ok ⟨0, 0, []⟩ j) := h2
      obtain ⟨⟨c0, c1, c2⟩, f0, f1, f2⟩ := three k2
      have kz := three_put k2 (.int .i64 0) (.int .i64 0) (.string ⟨#[]⟩)
      have sz := ((s2.put hfr 0 (.int .i64 0)).put hfr 1 (.int .i64 0)).put hfr 2 (.string ⟨#[]⟩)
      have gz := grown_put (grown_put (grown_put g2 (Nat.le_refl _) 0 (.int .i64 0)) (Nat.le_refl _) 1 (.int .i64 0)) (Nat.le_refl _) 2 (.string ⟨#[]⟩)
      clear h2 k2 s2 g2
      go_wp2_with fail
      generalize ((w2.setCell ⟨w.heap.size, 0, none⟩ (.int .i64 0)).setCell ⟨w.heap.size, 1, none⟩ (.int .i64 0)).setCell ⟨w.heap.size, 2, none⟩ (.string ⟨#[]⟩) = wz at *
      obtain ⟨⟨e0, e1, e2⟩, -⟩ := three kz
      refine bodyPost_ret (v := vlV ⟨0, 0, []⟩) ?_ rfl (.mkOk gz HV.out rfl sz)
      simp [results, Tryz.results146, go_sem, vlV, e0, e1, e2]
theorem value_any {w : World} {base pb : Nat} {v : Value} {T : List Tk} {en : Int} {i : Nat} (h : St w base pb v T en i) :
    Calls Tryz.prog 146 #[.pointer (some ⟨pb, 0, none⟩)] w fun e w' => Out w base pb v T en repV (valueP T i) e w' := by
  by_cases h2 : kd T i = 2
  · exact value_num h h2
  by_cases h3 : kd T i = 3
  · exact value_txt h h3
  · exact value_sign h h2 h3
def exV (k : Int) (x : Vl) (nm : List UInt8) (a : Value) : Value := .agg #[.int .i64 k, .int .i64 x.k, .int .i64 x.n, .string ⟨x.s.toArray⟩, .string ⟨nm.toArray⟩, a]
def Six (w : World) (b o : Nat) (u : Value) : Prop :=
  ∃ k x nm a, u = exV k x nm a ∧ w.cell? ⟨b, o, none⟩ = some (.int .i64 k) ∧ w.cell? ⟨b, o + 1, none⟩ = some (.int .i64 x.k) ∧ w.cell? ⟨b, o + 2, none⟩ = some (.int .i64 x.n) ∧
    w.cell? ⟨b, o + 3, none⟩ = some (.string ⟨x.s.toArray⟩) ∧ w.cell? ⟨b, o + 4, none⟩ = some (.string ⟨nm.toArray⟩) ∧ w.cell? ⟨b, o + 5, none⟩ = some a
inductive ExAt (B : Nat) (w : World) : Value → Ex → Prop where
  | nil (k : Int) (x : Vl) (nm : List UInt8) (ao : Option Addr) (cap : Nat) (hz : ao = none → cap = 0) : ExAt B w (exV k x nm (.slice ao 0 cap)) (.mk k x nm [])
  | args (k : Int) (x : Vl) (nm : List UInt8) (b off cap : Nat) (xs : List Ex) (us : Nat → Value) (hx : xs ≠ []) (hB : B ≤ b) (hs : b < w.heap.size) (hc : ∀ i, i < xs.length → Six w b (off + 6 * i) (us i))
      (h : ∀ i y, xs[i]? = some y → ExAt B w (us i) y) : ExAt B w (exV k x nm (.slice (some ⟨b, off, none⟩) xs.length cap)) (.mk k x nm xs)
theorem Six.keep {w w' : World} {b o : Nat} {u : Value} (h : Six w b o u) (hk : w'.heap[b]? = w.heap[b]?) : Six w' b o u := by
  obtain ⟨k, x, nm, a, rfl, h0, h1, h2, h3, h4, h5⟩ := h
  have e : ∀ o, w'.cell? ⟨b, o, none⟩ = w.cell? ⟨b, o, none⟩ := fun o => World.cell?_of_block (w := w) hk
  exact ⟨k, x, nm, a, rfl, (e _).trans h0, (e _).trans h1, (e _).trans h2, (e _).trans h3, (e _).trans h4, (e _).trans h5⟩
theorem ExAt.keep {B : Nat} {w w' : World} {u : Value} {x : Ex} (h : ExAt B w u x) (hs : w.heap.size ≤ w'.heap.size) (hk : ∀ b, B ≤ b → b < w.heap.size → w'.heap[b]? = w.heap[b]?) : ExAt B w' u x := by
  induction h with
  | nil k x nm ao cap hz => exact .nil k x nm ao cap hz
  | args k x nm b off cap xs us hx hB hsz hc _ ih =>
    exact .args k x nm b off cap xs us hx hB (Nat.lt_of_lt_of_le hsz hs) (fun i hi => (hc i hi).keep (hk b hB hsz)) ih
theorem ExAt.grown {B pb : Nat} {w w' : World} {u : Value} {x : Ex} (h : ExAt B w u x) (hp : pb < B) (hg : w.grownBy w' (some pb)) : ExAt B w' u x :=
  h.keep hg.size fun b hB hs => hg.block b hs (by simp only [ne_eq, Option.some.injEq]; omega)
theorem ExAt.put {B : Nat} {w : World} {u : Value} {x : Ex} (h : ExAt B w u x) {b : Nat} (hb : b < B) (o : Nat) (y : Value) : ExAt B (w.setCell ⟨b, o, none⟩ y) u x :=
  h.keep (by simp [World.setCell]) fun c hc _ => heap_setCell_other w _ c y (by simp only; omega)
theorem ExAt.alloc {B : Nat} {w : World} {u : Value} {x : Ex} (h : ExAt B w u x) (o : Obj) : ExAt B (w.alloc o) u x :=
  h.keep (by simp) fun b _ hs => ((Below.refl w.heap.size w).alloc (Nat.le_refl _) o).block b hs
theorem ExAt.under {B : Nat} {w w' : World} {u : Value} {x : Ex} (h : ExAt B w u x) (hb : Below w.heap.size w w') : ExAt B w' u x :=
  h.keep hb.size fun b _ hs => hb.block b hs
theorem ExAt.weak {B B' : Nat} {w : World} {u : Value} {x : Ex} (h : ExAt B w u x) (hB : B' ≤ B) : ExAt B' w u x := by
  induction h with
  | nil k x nm ao cap hz => exact .nil k x nm ao cap hz
  | args k x nm b off cap xs us hx hb hsz hc _ ih => exact .args k x nm b off cap xs us hx (Nat.le_trans hB hb) hsz hc ih
theorem ExAt.form {B : Nat} {w : World} {u : Value} {x : Ex} (h : ExAt B w u x) : ∃ k y nm ao n cap, u = exV k y nm (.slice ao n cap) := by
  cases h with
  | nil k x nm ao cap _ => exact ⟨_, _, _, _, _, _, rfl⟩
  | args k x nm b off cap xs us => exact ⟨_, _, _, _, _, _, rfl⟩
def repE (B : Nat) (w : World) (u : Value) (x : Ex) : Prop := ExAt B w u x
theorem six_of {w : World} {b : Nat} {t : TypeId} {cs : Array Value} (h : w.heap[b]? = some (.cells cs t)) (o : Nat) (k : Int) (x : Vl) (nm : List UInt8) (a : Value)
    (h0 : cs[o]? = some (.int .i64 k)) (h1 : cs[o + 1]? = some (.int .i64 x.k)) (h2 : cs[o + 2]? = some (.int .i64 x.n)) (h3 : cs[o + 3]? = some (.string ⟨x.s.toArray⟩)) (h4 : cs[o + 4]? = some (.string ⟨nm.toArray⟩)) (h5 : cs[o + 5]? = some a) : Six w b o (exV k x nm a) :=
  ⟨k, x, nm, a, rfl, (Lib.cell_of_heap h _).trans h0, (Lib.cell_of_heap h _).trans h1, (Lib.cell_of_heap h _).trans h2, (Lib.cell_of_heap h _).trans h3, (Lib.cell_of_heap h _).trans h4, (Lib.cell_of_heap h _).trans h5⟩
theorem ex_one {B : Nat} {w : World} {b : Nat} {t : TypeId} {k : Int} {x : Vl} {nm : List UInt8} {a : Value} {y : Ex} (hk : w.heap[b]? = some (.cells #[.int .i64 k, .int .i64 x.k, .int .i64 x.n, .string ⟨x.s.toArray⟩, .string ⟨nm.toArray⟩, a] t)) (hB : B ≤ b) (h : ExAt B w (exV k x nm a) y) (K : Int) (cap : Nat) :
    ExAt B w (exV K vl0 [] (.slice (some ⟨b, 0, none⟩) 1 cap)) (.mk K vl0 [] [y]) := by
  refine .args K vl0 [] b 0 cap [y] (fun _ => exV k x nm a) (by simp) hB (ltS hk) ?_ ?_
  · intro i hi
    have : i = 0 := by simpa using hi
    subst this
    exact six_of hk 0 k x nm a rfl rfl rfl rfl rfl rfl
  · intro i z hz
    match i, hz with
    | 0, hz => simp only [List.getElem?_cons_zero, Option.some.injEq] at hz; subst hz; exact h
theorem ex_two {B : Nat} {w : World} {b : Nat} {t : TypeId} {k k' : Int} {x x' : Vl} {nm nm' : List UInt8} {a a' : Value} {y y' : Ex} (hk : w.heap[b]? = some (.cells #[.int .i64 k, .int .i64 x.k, .int .i64 x.n, .string ⟨x.s.toArray⟩, .string ⟨nm.toArray⟩, a, .int .i64 k', .int .i64 x'.k, .int .i64 x'.n, .string ⟨x'.s.toArray⟩, .string ⟨nm'.toArray⟩, a'] t)) (hB : B ≤ b)
    (h : ExAt B w (exV k x nm a) y) (h' : ExAt B w (exV k' x' nm' a') y') (K : Int) (cap : Nat) :
    ExAt B w (exV K vl0 [] (.slice (some ⟨b, 0, none⟩) 2 cap)) (.mk K vl0 [] [y, y']) := by
  refine .args K vl0 [] b 0 cap [y, y'] (fun i => if i = 0 then exV k x nm a else exV k' x' nm' a') (by simp) hB (ltS hk) ?_ ?_
  · intro i hi
    match i, hi with
    | 0, _ => exact six_of hk 0 k x nm a rfl rfl rfl rfl rfl rfl
    | 1, _ => exact six_of hk 6 k' x' nm' a' rfl rfl rfl rfl rfl rfl
  · intro i z hz
    match i, hz with
    | 0, hz => simp only [List.getElem?_cons_zero, Option.some.injEq] at hz; subst hz; exact h
    | 1, hz => simp only [List.getElem?_cons_succ, List.getElem?_cons_zero, Option.some.injEq] at hz; subst hz; exact h'
theorem six {W : World} {b : Nat} {x0 x1 x2 x3 x4 x5 : Value} {t : TypeId} (h : W.heap[b]? = some (.cells #[x0, x1, x2, x3, x4, x5] t)) :
    (W.cell? ⟨b, 0, none⟩ = some x0 ∧ W.cell? ⟨b, 1, none⟩ = some x1 ∧ W.cell? ⟨b, 2, none⟩ = some x2 ∧ W.cell? ⟨b, 3, none⟩ = some x3 ∧ W.cell? ⟨b, 4, none⟩ = some x4 ∧ W.cell? ⟨b, 5, none⟩ = some x5) ∧
    (W.frozen? ⟨b, 0, none⟩ = false ∧ W.frozen? ⟨b, 1, none⟩ = false ∧ W.frozen? ⟨b, 2, none⟩ = false ∧ W.frozen? ⟨b, 3, none⟩ = false ∧ W.frozen? ⟨b, 4, none⟩ = false ∧ W.frozen? ⟨b, 5, none⟩ = false) := by
  refine ⟨⟨?_, ?_, ?_, ?_, ?_, ?_⟩, Lib.frozen_of_heap h 0, Lib.frozen_of_heap h 1, Lib.frozen_of_heap h 2, Lib.frozen_of_heap h 3, Lib.frozen_of_heap h 4, Lib.frozen_of_heap h 5⟩
  all_goals (rw [Lib.cell_of_heap h]; rfl)
def put6 (W : World) (b : Nat) (y0 y1 y2 y3 y4 y5 : Value) : World :=
  (((((W.setCell ⟨b, 0, none⟩ y0).setCell ⟨b, 1, none⟩ y1).setCell ⟨b, 2, none⟩ y2).setCell ⟨b, 3, none⟩ y3).setCell ⟨b, 4, none⟩ y4).setCell ⟨b, 5, none⟩ y5
theorem put6_size (W : World) (b : Nat) (y0 y1 y2 y3 y4 y5 : Value) : (put6 W b y0 y1 y2 y3 y4 y5).heap.size = W.heap.size := by simp [put6, World.setCell]
theorem six_put {W : World} {b : Nat} {x0 x1 x2 x3 x4 x5 : Value} {t : TypeId} (h : W.heap[b]? = some (.cells #[x0, x1, x2, x3, x4, x5] t)) (y0 y1 y2 y3 y4 y5 : Value) :
    (put6 W b y0 y1 y2 y3 y4 y5).heap[b]? = some (.cells #[y0, y1, y2, y3, y4, y5] t) :=
  heap_setCell_same _ b 5 _ t y5 (heap_setCell_same _ b 4 _ t y4 (heap_setCell_same _ b 3 _ t y3 (heap_setCell_same _ b 2 _ t y2 (heap_setCell_same _ b 1 _ t y1 (heap_setCell_same W b 0 _ t y0 h)))))
theorem St.put6 {w : World} {base pb : Nat} {v : Value} {T : List Tk} {en : Int} {i : Nat} (h : St w base pb v T en i) {b : Nat} (hb : b ≠ pb ∧ v.ownBlock ≠ some b ∧ 6 ≤ b) (y0 y1 y2 y3 y4 y5 : Value) : St (put6 w b y0 y1 y2 y3 y4 y5) base pb v T en i :=
  (((((h.put hb 0 y0).put hb 1 y1).put hb 2 y2).put hb 3 y3).put hb 4 y4).put hb 5 y5
theorem grown_put6 {w w' : World} {r : Option Nat} (h : w.grownBy w' r) {b : Nat} (hb : w.heap.size ≤ b) (y0 y1 y2 y3 y4 y5 : Value) : w.grownBy (put6 w' b y0 y1 y2 y3 y4 y5) r :=
  grown_put (grown_put (grown_put (grown_put (grown_put (grown_put h hb 0 y0) hb 1 y1) hb 2 y2) hb 3 y3) hb 4 y4) hb 5 y5
theorem ExAt.put6 {B : Nat} {w : World} {u : Value} {x : Ex} (h : ExAt B w u x) {b : Nat} (hb : b < B) (y0 y1 y2 y3 y4 y5 : Value) : ExAt B (put6 w b y0 y1 y2 y3 y4 y5) u x :=
  (((((h.put hb 0 y0).put hb 1 y1).put hb 2 y2).put hb 3 y3).put hb 4 y4).put hb 5 y5
theorem expr_zero {w : World} {base pb : Nat} {v : Value} {T : List Tk} {en : Int} {i : Nat} (h : St w base pb v T en i) :
    Calls Tryz.prog 150 #[.pointer (some ⟨pb, 0, none⟩), .int .i64 60] w fun e w' => Out w base pb v T en (repE w.heap.size) (exprP T 0 i) e w' := by
  have hfr := h.fresh (Nat.le_refl _)
  have s0 := h.alloc (.cells #[.int .i64 0, .int .i64 0, .int .i64 0, .string ⟨#[]⟩, .string ⟨#[]⟩, .slice none 0 0] 29)
  have g0 := grown_alloc (grown_refl w (some pb)) (.cells #[.int .i64 0, .int .i64 0, .int .i64 0, .string ⟨#[]⟩, .string ⟨#[]⟩, .slice none 0 0] 29)
  have k0 : (w.alloc (.cells #[.int .i64 0, .int .i64 0, .int .i64 0, .string ⟨#[]⟩, .string ⟨#[]⟩, .slice none 0 0] 29)).heap[w.heap.size]? = some (.cells #[.int .i64 0, .int .i64 0, .int .i64 0, .string ⟨#[]⟩, .string ⟨#[]⟩, .slice none 0 0] 29) := heap_alloc_new _ _
  have t2 := tokf2
  have HR : Hid (exprP T 0 i = leafP T i) := rfl
  go_enter Tryz.func150, Tryz.ntmps150
  go_wp2_with fail
  refine (here_any s0).mono ?_
  rintro e wb ⟨rfl, bb⟩
  have sb := s0.below bb
  have kb := (bb.block w.heap.size (ltS k0)).trans k0
  have gb := grown_trans g0 (grown_below bb _)
  have hsz := sb.short
  clear k0 s0 g0 bb
  go_wp2_with fail
  refine (isName_any _ _ (by rw [size_mk]; omega) sb.gl).mono ?_
  rintro e wc ⟨rfl, bc⟩
  have sc := sb.below bc
  have kc := (bc.block w.heap.size (ltS kb)).trans kb
  have gc := grown_trans gb (grown_below bc _)
  clear kb sb gb bc
  cases hnm : nameW (tx T i)
  · skip
    go_wp2_with fail
    refine (value_any sc).mono ?_
    intro e wd od
    have gd := grown_trans gc od.grown
    cases hv : valueP T i with
    | bad j =>
      obtain rfl := od.bad j hv
      exact ⟨rfl, .mkBad gd (by rw [HR.out, leafP, if_neg (by simp [hnm]), hv]; rfl)⟩
    | ok x j =>
      obtain ⟨u, rfl, hu, sd⟩ := od.ok x j hv
      cases hu
      have kd_ := (od.grown.block w.heap.size (ltS kc) (by simpa using hfr.1)).trans kc
      have HL : Hid (exprP T 0 i = .ok (.mk 1 x [] []) j) := by show _ = _; rw [HR.out, leafP, if_neg (by simp [hnm]), hv]; rfl
      clear kc sc gc
      simp only [vlV]
      obtain ⟨⟨c0, c1, c2, c3, c4, c5⟩, f0, f1, f2, f3, f4, f5⟩ := six kd_
      have kz := six_put kd_ (.int .i64 1) (.int .i64 x.k) (.int .i64 x.n) (.string ⟨x.s.toArray⟩) (.string ⟨#[]⟩) (.slice none 0 0)
      have sz := sd.put6 hfr (.int .i64 1) (.int .i64 x.k) (.int .i64 x.n) (.string ⟨x.s.toArray⟩) (.string ⟨#[]⟩) (.slice none 0 0)
      have gz := grown_put6 gd (Nat.le_refl _) (.int .i64 1) (.int .i64 x.k) (.int .i64 x.n) (.string ⟨x.s.toArray⟩) (.string ⟨#[]⟩) (.slice none 0 0)
      have hx : repE w.heap.size (put6 wd w.heap.size (.int .i64 1) (.int .i64 x.k) (.int .i64 x.n) (.string ⟨x.s.toArray⟩) (.string ⟨#[]⟩) (.slice none 0 0)) (exV 1 x [] (.slice none 0 0)) (.mk 1 x [] []) := .nil _ _ _ _ _ (fun _ => rfl)
      clear kd_ sd gd od hv hnm HR
      go_wp2_with fail
      change bodyPost Tryz.prog Tryz.f150 _ _ _ (put6 wd w.heap.size (.int .i64 1) (.int .i64 x.k) (.int .i64 x.n) (.string ⟨x.s.toArray⟩) (.string ⟨#[]⟩) (.slice none 0 0))
      generalize put6 wd w.heap.size (.int .i64 1) (.int .i64 x.k) (.int .i64 x.n) (.string ⟨x.s.toArray⟩) (.string ⟨#[]⟩) (.slice none 0 0) = wz at *
      obtain ⟨⟨e0, e1, e2, e3, e4, e5⟩, -⟩ := six kz
      refine bodyPost_ret (v := exV 1 x [] (.slice none 0 0)) ?_ rfl (.mkOk gz HL.out hx sz)
      simp [results, Tryz.results150, go_sem, exV, e0, e1, e2, e3, e4, e5]
  · skip
    go_wp2_with fail
    refine (name_any sc).mono ?_
    intro e wd od
    have gd := grown_trans gc od.grown
    have hn : nameP T i = .ok (tx T i) (i + 1) := by rw [nameP, if_pos hnm]
    obtain ⟨u, rfl, hu, sd⟩ := od.ok _ _ hn
    cases hu
    have kd_ := (od.grown.block w.heap.size (ltS kc) (by simpa using hfr.1)).trans kc
    have HL : Hid (exprP T 0 i = .ok (.mk 2 vl0 (tx T i) []) (i + 1)) := by show _ = _; rw [HR.out, leafP, if_pos hnm]
    clear kc sc gc hn
    obtain ⟨⟨c0, c1, c2, c3, c4, c5⟩, f0, f1, f2, f3, f4, f5⟩ := six kd_
    have kz := six_put kd_ (.int .i64 2) (.int .i64 0) (.int .i64 0) (.string ⟨#[]⟩) (.string ⟨(tx T i).toArray⟩) (.slice none 0 0)
    have sz := sd.put6 hfr (.int .i64 2) (.int .i64 0) (.int .i64 0) (.string ⟨#[]⟩) (.string ⟨(tx T i).toArray⟩) (.slice none 0 0)
    have gz := grown_put6 gd (Nat.le_refl _) (.int .i64 2) (.int .i64 0) (.int .i64 0) (.string ⟨#[]⟩) (.string ⟨(tx T i).toArray⟩) (.slice none 0 0)
    have hx : repE w.heap.size (put6 wd w.heap.size (.int .i64 2) (.int .i64 0) (.int .i64 0) (.string ⟨#[]⟩) (.string ⟨(tx T i).toArray⟩) (.slice none 0 0)) (exV 2 vl0 (tx T i) (.slice none 0 0)) (.mk 2 vl0 (tx T i) []) := .nil _ _ _ _ _ (fun _ => rfl)
    clear kd_ sd gd od hnm HR
    go_wp2_with fail
    change bodyPost Tryz.prog Tryz.f150 _ _ _ (put6 wd w.heap.size (.int .i64 2) (.int .i64 0) (.int .i64 0) (.string ⟨#[]⟩) (.string ⟨(tx T i).toArray⟩) (.slice none 0 0))
    generalize put6 wd w.heap.size (.int .i64 2) (.int .i64 0) (.int .i64 0) (.string ⟨#[]⟩) (.string ⟨(tx T i).toArray⟩) (.slice none 0 0) = wz at *
    obtain ⟨⟨e0, e1, e2, e3, e4, e5⟩, -⟩ := six kz
    refine bodyPost_ret (v := exV 2 vl0 (tx T i) (.slice none 0 0)) ?_ rfl (.mkOk gz HL.out hx sz)
    simp [results, Tryz.results150, go_sem, exV, vl0, e0, e1, e2, e3, e4, e5]
theorem expr_leaf {w : World} {base pb : Nat} {v : Value} {T : List Tk} {en : Int} {i : Nat} (h : St w base pb v T en i) (f : Nat) (hf : f < 60) (hn1 : tx T i ≠ w_not) (hn2 : tx T i ≠ [40]) :
    Calls Tryz.prog 150 #[.pointer (some ⟨pb, 0, none⟩), .int .i64 ((59 - f : Nat) : Int)] w fun e w' => Out w base pb v T en (repE w.heap.size) (exprP T (f + 1) i) e w' := by
  have hfr := h.fresh (Nat.le_refl _)
  have s0 := h.alloc (.cells #[.int .i64 0, .int .i64 0, .int .i64 0, .string ⟨#[]⟩, .string ⟨#[]⟩, .slice none 0 0] 29)
  have g0 := grown_alloc (grown_refl w (some pb)) (.cells #[.int .i64 0, .int .i64 0, .int .i64 0, .string ⟨#[]⟩, .string ⟨#[]⟩, .slice none 0 0] 29)
  have k0 : (w.alloc (.cells #[.int .i64 0, .int .i64 0, .int .i64 0, .string ⟨#[]⟩, .string ⟨#[]⟩, .slice none 0 0] 29)).heap[w.heap.size]? = some (.cells #[.int .i64 0, .int .i64 0, .int .i64 0, .string ⟨#[]⟩, .string ⟨#[]⟩, .slice none 0 0] 29) := heap_alloc_new _ _
  have t2 := tokf2
  have HR : Hid (exprP T (f + 1) i = leafP T i) := by show _ = _; rw [exprP, if_neg hn1, if_neg hn2]
  have hm : ((59 - f : Nat) : Int) < 60 := by omega
  have hl : 59 - f < 60 := by omega
  generalize ((59 - f : Nat) : Int) = m at hm ⊢
  have m1 := may_nil s0 w_not (by decide)
  simp only [hn1, if_false, decide_false] at m1
  go_enter Tryz.func150, Tryz.ntmps150
  go_wp2_with fail
  refine m1.mono ?_
  rintro e w1 ⟨rfl, g1', s1⟩
  have k1 := (g1'.block w.heap.size (ltS k0) (by simpa using hfr.1)).trans k0
  have g1 := grown_trans g0 g1'
  have m2 := may_nil s1 [40] (by decide)
  simp only [hn2, if_false, decide_false] at m2
  clear m1 g1' k0 s0 g0
  go_wp2_with fail
  refine m2.mono ?_
  rintro e w2 ⟨rfl, g2', s2⟩
  have k2 := (g2'.block w.heap.size (ltS k1) (by simpa using hfr.1)).trans k1
  have g2 := grown_trans g1 g2'
  clear m2 g2' k1 s1 g1 hn1 hn2 hl
  go_wp2_with fail
  refine (here_any s2).mono ?_
  rintro e wb ⟨rfl, bb⟩
  have sb := s2.below bb
  have kb := (bb.block w.heap.size (ltS k2)).trans k2
  have gb := grown_trans g2 (grown_below bb _)
  have hsz := sb.short
  clear k2 s2 g2 bb
  go_wp2_with fail
  refine (isName_any _ _ (by rw [size_mk]; omega) sb.gl).mono ?_
  rintro e wc ⟨rfl, bc⟩
  have sc := sb.below bc
  have kc := (bc.block w.heap.size (ltS kb)).trans kb
  have gc := grown_trans gb (grown_below bc _)
  clear kb sb gb bc
  cases hnm : nameW (tx T i)
  · skip
    go_wp2_with fail
    refine (value_any sc).mono ?_
    intro e wd od
    have gd := grown_trans gc od.grown
    cases hv : valueP T i with
    | bad j =>
      obtain rfl := od.bad j hv
      exact ⟨rfl, .mkBad gd (by rw [HR.out, leafP, if_neg (by simp [hnm]), hv]; rfl)⟩
    | ok x j =>
      obtain ⟨u, rfl, hu, sd⟩ := od.ok x j hv
      cases hu
      have kd_ := (od.grown.block w.heap.size (ltS kc) (by simpa using hfr.1)).trans kc
      have HL : Hid (exprP T (f + 1) i = .ok (.mk 1 x [] []) j) := by show _ = _; rw [HR.out, leafP, if_neg (by simp [hnm]), hv]; rfl
      clear kc sc gc
      simp only [vlV]
      obtain ⟨⟨c0, c1, c2, c3, c4, c5⟩, f0, f1, f2, f3, f4, f5⟩ := six kd_
      have kz := six_put kd_ (.int .i64 1) (.int .i64 x.k) (.int .i64 x.n) (.string ⟨x.s.toArray⟩) (.string ⟨#[]⟩) (.slice none 0 0)
      have sz := sd.put6 hfr (.int .i64 1) (.int .i64 x.k) (.int .i64 x.n) (.string ⟨x.s.toArray⟩) (.string ⟨#[]⟩) (.slice none 0 0)
      have gz := grown_put6 gd (Nat.le_refl _) (.int .i64 1) (.int .i64 x.k) (.int .i64 x.n) (.string ⟨x.s.toArray⟩) (.string ⟨#[]⟩) (.slice none 0 0)
      have hx : repE w.heap.size (put6 wd w.heap.size (.int .i64 1) (.int .i64 x.k) (.int .i64 x.n) (.string ⟨x.s.toArray⟩) (.string ⟨#[]⟩) (.slice none 0 0)) (exV 1 x [] (.slice none 0 0)) (.mk 1 x [] []) := .nil _ _ _ _ _ (fun _ => rfl)
      clear kd_ sd gd od hv hnm HR
      go_wp2_with fail
      change bodyPost Tryz.prog Tryz.f150 _ _ _ (put6 wd w.heap.size (.int .i64 1) (.int .i64 x.k) (.int .i64 x.n) (.string ⟨x.s.toArray⟩) (.string ⟨#[]⟩) (.slice none 0 0))
      generalize put6 wd w.heap.size (.int .i64 1) (.int .i64 x.k) (.int .i64 x.n) (.string ⟨x.s.toArray⟩) (.string ⟨#[]⟩) (.slice none 0 0) = wz at *
      obtain ⟨⟨e0, e1, e2, e3, e4, e5⟩, -⟩ := six kz
      refine bodyPost_ret (v := exV 1 x [] (.slice none 0 0)) ?_ rfl (.mkOk gz HL.out hx sz)
      simp [results, Tryz.results150, go_sem, exV, e0, e1, e2, e3, e4, e5]
  · skip
    go_wp2_with fail
    refine (name_any sc).mono ?_
    intro e wd od
    have gd := grown_trans gc od.grown
    have hn : nameP T i = .ok (tx T i) (i + 1) := by rw [nameP, if_pos hnm]
    obtain ⟨u, rfl, hu, sd⟩ := od.ok _ _ hn
    cases hu
    have kd_ := (od.grown.block w.heap.size (ltS kc) (by simpa using hfr.1)).trans kc
    have HL : Hid (exprP T (f + 1) i = .ok (.mk 2 vl0 (tx T i) []) (i + 1)) := by show _ = _; rw [HR.out, leafP, if_pos hnm]
    clear kc sc gc hn
    obtain ⟨⟨c0, c1, c2, c3, c4, c5⟩, f0, f1, f2, f3, f4, f5⟩ := six kd_
    have kz := six_put kd_ (.int .i64 2) (.int .i64 0) (.int .i64 0) (.string ⟨#[]⟩) (.string ⟨(tx T i).toArray⟩) (.slice none 0 0)
    have sz := sd.put6 hfr (.int .i64 2) (.int .i64 0) (.int .i64 0) (.string ⟨#[]⟩) (.string ⟨(tx T i).toArray⟩) (.slice none 0 0)
    have gz := grown_put6 gd (Nat.le_refl _) (.int .i64 2) (.int .i64 0) (.int .i64 0) (.string ⟨#[]⟩) (.string ⟨(tx T i).toArray⟩) (.slice none 0 0)
    have hx : repE w.heap.size (put6 wd w.heap.size (.int .i64 2) (.int .i64 0) (.int .i64 0) (.string ⟨#[]⟩) (.string ⟨(tx T i).toArray⟩) (.slice none 0 0)) (exV 2 vl0 (tx T i) (.slice none 0 0)) (.mk 2 vl0 (tx T i) []) := .nil _ _ _ _ _ (fun _ => rfl)
    clear kd_ sd gd od hnm HR
    go_wp2_with fail
    change bodyPost Tryz.prog Tryz.f150 _ _ _ (put6 wd w.heap.size (.int .i64 2) (.int .i64 0) (.int .i64 0) (.string ⟨#[]⟩) (.string ⟨(tx T i).toArray⟩) (.slice none 0 0))
    generalize put6 wd w.heap.size (.int .i64 2) (.int .i64 0) (.int .i64 0) (.string ⟨#[]⟩) (.string ⟨(tx T i).toArray⟩) (.slice none 0 0) = wz at *
    obtain ⟨⟨e0, e1, e2, e3, e4, e5⟩, -⟩ := six kz
    refine bodyPost_ret (v := exV 2 vl0 (tx T i) (.slice none 0 0)) ?_ rfl (.mkOk gz HL.out hx sz)
    simp [results, Tryz.results150, go_sem, exV, vl0, e0, e1, e2, e3, e4, e5]
theorem expr_not {w : World} {base pb : Nat} {v : Value} {T : List Tk} {en : Int} {i : Nat} (h : St w base pb v T en i) (f : Nat) (hf : f < 60) (hn1 : tx T i = w_not)
    (ih : ∀ (W : World) (i : Nat), St W base pb v T en i → Calls Tryz.prog 150 #[.pointer (some ⟨pb, 0, none⟩), .int .i64 ((60 - f : Nat) : Int)] W fun e w' => Out W base pb v T en (repE W.heap.size) (exprP T f i) e w') :
    Calls Tryz.prog 150 #[.pointer (some ⟨pb, 0, none⟩), .int .i64 ((59 - f : Nat) : Int)] w fun e w' => Out w base pb v T en (repE w.heap.size) (exprP T (f + 1) i) e w' := by
  have hfr := h.fresh (Nat.le_refl _)
  have s0 := h.alloc (.cells #[.int .i64 0, .int .i64 0, .int .i64 0, .string ⟨#[]⟩, .string ⟨#[]⟩, .slice none 0 0] 29)
  have g0 := grown_alloc (grown_refl w (some pb)) (.cells #[.int .i64 0, .int .i64 0, .int .i64 0, .string ⟨#[]⟩, .string ⟨#[]⟩, .slice none 0 0] 29)
  have k0 : (w.alloc (.cells #[.int .i64 0, .int .i64 0, .int .i64 0, .string ⟨#[]⟩, .string ⟨#[]⟩, .slice none 0 0] 29)).heap[w.heap.size]? = some (.cells #[.int .i64 0, .int .i64 0, .int .i64 0, .string ⟨#[]⟩, .string ⟨#[]⟩, .slice none 0 0] 29) := heap_alloc_new _ _
  have t2 := tokf2
  have HR : Hid (exprP T (f + 1) i = (exprP T f (i + 1)).then fun a j => .ok (.mk 3 vl0 [] [a]) j) := by show _ = _; rw [exprP, if_pos hn1]
  have hm : ((59 - f : Nat) : Int) < 60 := by omega
  have hm0 : 0 ≤ ((59 - f : Nat) : Int) := by omega
  have hm1 : ((60 - f : Nat) : Int) = ((59 - f : Nat) : Int) + 1 := by omega
  rw [hm1] at ih
  generalize ((59 - f : Nat) : Int) = m at hm hm0 ih ⊢
  have m1 := may_nil s0 w_not (by decide)
  simp only [hn1, if_true, decide_true] at m1
  clear hm1 hn1 hf
  go_enter Tryz.func150, Tryz.ntmps150
  go_wp2_with fail
  refine m1.mono ?_
  rintro e wb ⟨rfl, gb', sb⟩
  have kb := (gb'.block w.heap.size (ltS k0) (by simpa using hfr.1)).trans k0
  have gb := grown_trans g0 gb'
  have hwb := (ltS kb)
  clear m1 gb' k0 s0 g0
  go_wp2_with fail
  refine (ih _ _ sb).mono ?_
  intro e wc oc
  have gc := grown_trans gb oc.grown
  have gc2 := oc.grown
  cases hy : exprP T f (i + 1) with
  | bad j =>
    obtain rfl := oc.bad j hy
    exact ⟨rfl, .mkBad gc (by rw [HR.out, hy]; rfl)⟩
  | ok y j =>
    obtain ⟨u, rfl, xc, sc⟩ := oc.ok y j hy
    obtain ⟨k, x, nm, ao, na, ca, rfl⟩ := ExAt.form xc
    have kc := (gc2.block w.heap.size hwb (by simpa using hfr.1)).trans kb
    have HL : Hid (exprP T (f + 1) i = .ok (.mk 3 vl0 [] [y]) j) := by show _ = _; rw [HR.out, hy]; rfl
    have xc : ExAt wb.heap.size wc (exV k x nm (.slice ao na ca)) y := xc
    clear kb sb HR ih
    rw [exV]
    obtain ⟨⟨c0, c1, c2, c3, c4, c5⟩, f0, f1, f2, f3, f4, f5⟩ := six kc
    have kz := six_put kc (.int .i64 3) (.int .i64 0) (.int .i64 0) (.string ⟨#[]⟩) (.string ⟨#[]⟩) (.slice (some ⟨wc.heap.size, 0, none⟩) 1 1)
    have sz := sc.put6 hfr (.int .i64 3) (.int .i64 0) (.int .i64 0) (.string ⟨#[]⟩) (.string ⟨#[]⟩) (.slice (some ⟨wc.heap.size, 0, none⟩) 1 1)
    have gz := grown_put6 gc (Nat.le_refl _) (.int .i64 3) (.int .i64 0) (.int .i64 0) (.string ⟨#[]⟩) (.string ⟨#[]⟩) (.slice (some ⟨wc.heap.size, 0, none⟩) 1 1)
    have hsz := put6_size wc w.heap.size (.int .i64 3) (.int .i64 0) (.int .i64 0) (.string ⟨#[]⟩) (.string ⟨#[]⟩) (.slice (some ⟨wc.heap.size, 0, none⟩) 1 1)
    have hrb := (ltS kz)
    have hrw := (ltS kc)
    have xcz := xc.put6 hwb (.int .i64 3) (.int .i64 0) (.int .i64 0) (.string ⟨#[]⟩) (.string ⟨#[]⟩) (.slice (some ⟨wc.heap.size, 0, none⟩) 1 1)
    clear oc hy
    go_wp2_with fail
    change bodyPost Tryz.prog Tryz.f150 _ _ _ ((put6 wc w.heap.size (.int .i64 3) (.int .i64 0) (.int .i64 0) (.string ⟨#[]⟩) (.string ⟨#[]⟩) (.slice (some ⟨wc.heap.size, 0, none⟩) 1 1)).alloc (.cells #[.int .i64 k, .int .i64 x.k, .int .i64 x.n, .string ⟨x.s.toArray⟩, .string ⟨nm.toArray⟩, .slice ao na ca] 29))
    generalize put6 wc w.heap.size (.int .i64 3) (.int .i64 0) (.int .i64 0) (.string ⟨#[]⟩) (.string ⟨#[]⟩) (.slice (some ⟨wc.heap.size, 0, none⟩) 1 1) = wz at *
    obtain ⟨⟨e0, e1, e2, e3, e4, e5⟩, -⟩ := six kz
    refine bodyPost_ret (v := exV 3 vl0 [] (.slice (some ⟨wc.heap.size, 0, none⟩) 1 1)) ?_ rfl (.mkOk (grown_alloc gz _) HL.out (by rw [← hsz]; exact (ex_one (heap_alloc_new wz _) (by rw [hsz]; exact gc2.size) (xcz.alloc _) 3 1).weak gb.size) (sz.alloc _))
    simp [results, Tryz.results150, go_sem, exV, vl0, e0, e1, e2, e3, e4, e5, hrb]
theorem bracket_any {w : World} {base pb : Nat} {v : Value} {T : List Tk} {en : Int} {i : Nat} (h : St w base pb v T en i) (m : Int) (f : Nat)
    (ih : ∀ (W : World) (i : Nat), St W base pb v T en i → Calls Tryz.prog 150 #[.pointer (some ⟨pb, 0, none⟩), .int .i64 m] W fun e w' => Out W base pb v T en (repE W.heap.size) (exprP T f i) e w') :
    Calls Tryz.prog 173 #[.pointer (some ⟨pb, 0, none⟩), .int .i64 m] w fun e w' => Out w base pb v T en (repE w.heap.size) (brackP T (exprP T f) i) e w' := by
  have hfr := h.fresh (Nat.le_refl _)
  have s0 := h.alloc (.cells #[.int .i64 0, .int .i64 0, .int .i64 0, .string ⟨#[]⟩, .string ⟨#[]⟩, .slice none 0 0] 29)
  have g0 := grown_alloc (grown_refl w (some pb)) (.cells #[.int .i64 0, .int .i64 0, .int .i64 0, .string ⟨#[]⟩, .string ⟨#[]⟩, .slice none 0 0] 29)
  have k0 : (w.alloc (.cells #[.int .i64 0, .int .i64 0, .int .i64 0, .string ⟨#[]⟩, .string ⟨#[]⟩, .slice none 0 0] 29)).heap[w.heap.size]? = some (.cells #[.int .i64 0, .int .i64 0, .int .i64 0, .string ⟨#[]⟩, .string ⟨#[]⟩, .slice none 0 0] 29) := heap_alloc_new _ _
  have hrB : w.heap.size < (w.alloc (.cells #[.int .i64 0, .int .i64 0, .int .i64 0, .string ⟨#[]⟩, .string ⟨#[]⟩, .slice none 0 0] 29)).heap.size := by simp
  have hBw : w.heap.size ≤ (w.alloc (.cells #[.int .i64 0, .int .i64 0, .int .i64 0, .string ⟨#[]⟩, .string ⟨#[]⟩, .slice none 0 0] 29)).heap.size := by simp
  have hpB : pb < (w.alloc (.cells #[.int .i64 0, .int .i64 0, .int .i64 0, .string ⟨#[]⟩, .string ⟨#[]⟩, .slice none 0 0] 29)).heap.size := by have := h.heapLt; simp; omega
  have ih0 := ih _ _ s0
  generalize hB1 : (w.alloc (.cells #[.int .i64 0, .int .i64 0, .int .i64 0, .string ⟨#[]⟩, .string ⟨#[]⟩, .slice none 0 0] 29)).heap.size = B1 at hrB hBw hpB
  go_enter Tryz.func173, Tryz.ntmps173
  go_wp2_with fail
  refine ih0.mono ?_
  intro e wa oa
  have ga := grown_trans g0 oa.grown
  have ga' := oa.grown
  cases hy : exprP T f i with
  | bad j =>
    obtain rfl := oa.bad j hy
    exact ⟨rfl, .mkBad ga (by rw [brackP, hy]; rfl)⟩
  | ok y j =>
    obtain ⟨u, rfl, xa, sa⟩ := oa.ok y j hy
    obtain ⟨k, x, nm, ao, na, ca, rfl⟩ := ExAt.form xa
    have xa : ExAt (w.alloc (.cells #[.int .i64 0, .int .i64 0, .int .i64 0, .string ⟨#[]⟩, .string ⟨#[]⟩, .slice none 0 0] 29)).heap.size wa (exV k x nm (.slice ao na ca)) y := xa
    rw [hB1] at xa
    have ka := (ga'.block _ (ltS k0) (by simpa using hfr.1)).trans k0
    have hBa : B1 ≤ wa.heap.size := by rw [← hB1]; exact ga'.size
    have sa1 := sa.alloc (.cells #[.int .i64 k, .int .i64 x.k, .int .i64 x.n, .string ⟨x.s.toArray⟩, .string ⟨nm.toArray⟩, .slice ao na ca] 29)
    have ka1 := (((Below.refl wa.heap.size wa).alloc (Nat.le_refl _) (.cells #[.int .i64 k, .int .i64 x.k, .int .i64 x.n, .string ⟨x.s.toArray⟩, .string ⟨nm.toArray⟩, .slice ao na ca] 29)).block _ (ltS ka)).trans ka
    have ga1 := grown_alloc ga (.cells #[.int .i64 k, .int .i64 x.k, .int .i64 x.n, .string ⟨x.s.toArray⟩, .string ⟨nm.toArray⟩, .slice ao na ca] 29)
    have xa1 := xa.alloc (.cells #[.int .i64 k, .int .i64 x.k, .int .i64 x.n, .string ⟨x.s.toArray⟩, .string ⟨nm.toArray⟩, .slice ao na ca] 29)
    have k5 := heap_alloc_new wa (.cells #[.int .i64 k, .int .i64 x.k, .int .i64 x.n, .string ⟨x.s.toArray⟩, .string ⟨nm.toArray⟩, .slice ao na ca] 29)
    have h5 : wa.heap.size ≠ pb := (sa.fresh (Nat.le_refl _)).1
    have h56 : wa.heap.size ≠ w.heap.size := by have := (ltS ka); omega
    have HY : Hid (exprP T f i = .ok y j) := hy
    clear oa ga' ka ga xa s0 k0 g0 ih0 hy
    rw [exV]
    go_wp2_with fail
    refine (may_new sa1 w_is (by decide) [w_null, [41]] 2 _ (by simp) _ (by rfl) (by rfl) (by decide) (by decide)).mono ?_
    intro e wb ob
    have gb := grown_trans ga1 ob.grown
    have kb := (ob.grown.block _ (ltS ka1) (by simpa using hfr.1)).trans ka1
    have k5b := (ob.grown.block _ (ltS k5) (by simpa using h5)).trans k5
    have xb := xa1.grown hpB ob.grown
    have hB1b : B1 ≤ wb.heap.size := by have := ob.grown.size; simp at this; omega
    cases hb0 : may T w_is [w_null, [41]] j with
    | bad j2 =>
      obtain rfl := ob.bad j2 hb0
      exact ⟨rfl, .mkBad gb (by rw [brackP, HY.out, Rs.then_ok, hb0]; rfl)⟩
    | ok t j2 =>
      obtain ⟨u, rfl, hu, sb⟩ := ob.ok t j2 hb0
      cases hu
      obtain ⟨⟨p0, p1, p2, p3, p4, p5⟩, -⟩ := six k5b
      clear sa1 ka1 ga1 xa1 k5 sa
      cases t with
      | true =>
        have HL : Hid (brackP T (exprP T f) i = .ok (.mk 4 vl0 [] [y]) j2) := by show _ = _; rw [brackP, HY.out, Rs.then_ok, hb0]; rfl
        clear HY ih
        obtain ⟨⟨c0, c1, c2, c3, c4, c5⟩, f0, f1, f2, f3, f4, f5⟩ := six kb
        have kz := six_put kb (.int .i64 4) (.int .i64 0) (.int .i64 0) (.string ⟨#[]⟩) (.string ⟨#[]⟩) (.slice (some ⟨wb.heap.size, 0, none⟩) 1 1)
        have sz := sb.put6 hfr (.int .i64 4) (.int .i64 0) (.int .i64 0) (.string ⟨#[]⟩) (.string ⟨#[]⟩) (.slice (some ⟨wb.heap.size, 0, none⟩) 1 1)
        have gz := grown_put6 gb (Nat.le_refl _) (.int .i64 4) (.int .i64 0) (.int .i64 0) (.string ⟨#[]⟩) (.string ⟨#[]⟩) (.slice (some ⟨wb.heap.size, 0, none⟩) 1 1)
        have hsz := put6_size wb w.heap.size (.int .i64 4) (.int .i64 0) (.int .i64 0) (.string ⟨#[]⟩) (.string ⟨#[]⟩) (.slice (some ⟨wb.heap.size, 0, none⟩) 1 1)
        have hrb := (ltS kz)
        have hrw := (ltS kb)
        have xbz := xb.put6 hrB (.int .i64 4) (.int .i64 0) (.int .i64 0) (.string ⟨#[]⟩) (.string ⟨#[]⟩) (.slice (some ⟨wb.heap.size, 0, none⟩) 1 1)
        clear ob hb0
        go_wp2_with fail
        change bodyPost Tryz.prog Tryz.f173 _ _ _ ((put6 wb w.heap.size (.int .i64 4) (.int .i64 0) (.int .i64 0) (.string ⟨#[]⟩) (.string ⟨#[]⟩) (.slice (some ⟨wb.heap.size, 0, none⟩) 1 1)).alloc (.cells #[.int .i64 k, .int .i64 x.k, .int .i64 x.n, .string ⟨x.s.toArray⟩, .string ⟨nm.toArray⟩, .slice ao na ca] 29))
        generalize put6 wb w.heap.size (.int .i64 4) (.int .i64 0) (.int .i64 0) (.string ⟨#[]⟩) (.string ⟨#[]⟩) (.slice (some ⟨wb.heap.size, 0, none⟩) 1 1) = wz at *
        obtain ⟨⟨e0, e1, e2, e3, e4, e5⟩, -⟩ := six kz
        refine bodyPost_ret (v := exV 4 vl0 [] (.slice (some ⟨wb.heap.size, 0, none⟩) 1 1)) ?_ rfl (.mkOk (grown_alloc gz _) HL.out (by rw [← hsz]; exact (ex_one (heap_alloc_new wz _) (by rw [hsz]; exact hB1b) (xbz.alloc _) 4 1).weak hBw) (sz.alloc _))
        simp [results, Tryz.results173, go_sem, exV, vl0, e0, e1, e2, e3, e4, e5, hrb]
      | false =>
        have HY2 : Hid (brackP T (exprP T f) i = (kindOf T (placeL opersL) j2).then fun k j => (exprP T f j).then fun b j => (must T [[41]] j).then fun _ j => .ok (.mk (k : Nat) vl0 [] [y, b]) j) := by
          show _ = _; rw [brackP, HY.out, Rs.then_ok, hb0]; rfl
        clear HY ob hb0 p0 p1 p2 p3 p4 p5
        go_wp2_with fail
        refine (kindOf_oper sb).mono ?_
        intro e wc oc
        have gc := grown_trans gb oc.grown
        have kc := (oc.grown.block _ (ltS kb) (by simpa using hfr.1)).trans kb
        have k5c := (oc.grown.block _ (ltS k5b) (by simpa using h5)).trans k5b
        have xc := xb.grown hpB oc.grown
        have hB1c : B1 ≤ wc.heap.size := Nat.le_trans hB1b oc.grown.size
        cases hk : kindOf T (placeL opersL) j2 with
        | bad j3 =>
          obtain rfl := oc.bad j3 hk
          exact ⟨rfl, .mkBad gc (by rw [HY2.out, hk]; rfl)⟩
        | ok kk j3 =>
          obtain ⟨u, rfl, hu, sc⟩ := oc.ok kk j3 hk
          cases hu
          have HY3 : Hid (brackP T (exprP T f) i = (exprP T f j3).then fun b j => (must T [[41]] j).then fun _ j => .ok (.mk (kk : Nat) vl0 [] [y, b]) j) := by
            show _ = _; rw [HY2.out, hk]; rfl
          have ih1 := ih _ _ sc
          clear HY2 oc hk kb k5b xb sb gb hB1b
          go_wp2_with fail
          refine ih1.mono ?_
          intro e wd od
          have gd := grown_trans gc od.grown
          have kd_ := (od.grown.block _ (ltS kc) (by simpa using hfr.1)).trans kc
          have k5d := (od.grown.block _ (ltS k5c) (by simpa using h5)).trans k5c
          have xd := xc.grown hpB od.grown
          have hB1d : B1 ≤ wd.heap.size := Nat.le_trans hB1c od.grown.size
          cases hz : exprP T f j3 with
          | bad j4 =>
            obtain rfl := od.bad j4 hz
            exact ⟨rfl, .mkBad gd (by rw [HY3.out, hz]; rfl)⟩
          | ok z j4 =>
            obtain ⟨u, rfl, xd2, sd⟩ := od.ok z j4 hz
            obtain ⟨k2, x2, nm2, ao2, na2, ca2, rfl⟩ := ExAt.form xd2
            have xd2 : ExAt B1 wd (exV k2 x2 nm2 (.slice ao2 na2 ca2)) z := ExAt.weak xd2 hB1c
            have HY4 : Hid (brackP T (exprP T f) i = (must T [[41]] j4).then fun _ j => .ok (.mk (kk : Nat) vl0 [] [y, z]) j) := by
              show _ = _; rw [HY3.out, hz]; rfl
            have sd1 := sd.alloc (.cells #[.int .i64 k2, .int .i64 x2.k, .int .i64 x2.n, .string ⟨x2.s.toArray⟩, .string ⟨nm2.toArray⟩, .slice ao2 na2 ca2] 29)
            have kd1 := (((Below.refl wd.heap.size wd).alloc (Nat.le_refl _) (.cells #[.int .i64 k2, .int .i64 x2.k, .int .i64 x2.n, .string ⟨x2.s.toArray⟩, .string ⟨nm2.toArray⟩, .slice ao2 na2 ca2] 29)).block _ (ltS kd_)).trans kd_
            have k5d1 := (((Below.refl wd.heap.size wd).alloc (Nat.le_refl _) (.cells #[.int .i64 k2, .int .i64 x2.k, .int .i64 x2.n, .string ⟨x2.s.toArray⟩, .string ⟨nm2.toArray⟩, .slice ao2 na2 ca2] 29)).block _ (ltS k5d)).trans k5d
            have gd1 := grown_alloc gd (.cells #[.int .i64 k2, .int .i64 x2.k, .int .i64 x2.n, .string ⟨x2.s.toArray⟩, .string ⟨nm2.toArray⟩, .slice ao2 na2 ca2] 29)
            have xd1 := xd.alloc (.cells #[.int .i64 k2, .int .i64 x2.k, .int .i64 x2.n, .string ⟨x2.s.toArray⟩, .string ⟨nm2.toArray⟩, .slice ao2 na2 ca2] 29)
            have xd21 := xd2.alloc (.cells #[.int .i64 k2, .int .i64 x2.k, .int .i64 x2.n, .string ⟨x2.s.toArray⟩, .string ⟨nm2.toArray⟩, .slice ao2 na2 ca2] 29)
            have k7 := heap_alloc_new wd (.cells #[.int .i64 k2, .int .i64 x2.k, .int .i64 x2.n, .string ⟨x2.s.toArray⟩, .string ⟨nm2.toArray⟩, .slice ao2 na2 ca2] 29)
            have h7 : wd.heap.size ≠ pb := (sd.fresh (Nat.le_refl _)).1
            have h76 : wd.heap.size ≠ w.heap.size := by have := (ltS kd_); omega
            clear HY3 od hz kc k5c xc sc gc hB1c ih1 ih kd_ k5d xd xd2
            rw [exV]
            go_wp2_with fail
            refine (must_new sd1 [[41]] 1 _ (by simp) _ (by rfl) (by rfl) (by decide) (by decide)).mono ?_
            intro e we oe
            have ge := grown_trans gd1 oe.grown
            have ke := (oe.grown.block _ (ltS kd1) (by simpa using hfr.1)).trans kd1
            have k5e := (oe.grown.block _ (ltS k5d1) (by simpa using h5)).trans k5d1
            have k7e := (oe.grown.block _ (ltS k7) (by simpa using h7)).trans k7
            have xe := xd1.grown hpB oe.grown
            have xe2 := xd21.grown hpB oe.grown
            have hB1e : B1 ≤ we.heap.size := by have := oe.grown.size; simp at this; omega
            cases he0 : must T [[41]] j4 with
            | bad j5 =>
              obtain rfl := oe.bad j5 he0
              exact ⟨rfl, .mkBad ge (by rw [HY4.out, he0]; rfl)⟩
            | ok t5 j5 =>
              obtain ⟨u, rfl, hu, se⟩ := oe.ok t5 j5 he0
              obtain ⟨⟨p0, p1, p2, p3, p4, p5⟩, -⟩ := six k5e
              obtain ⟨⟨q0, q1, q2, q3, q4, q5⟩, -⟩ := six k7e
              have HL : Hid (brackP T (exprP T f) i = .ok (.mk (kk : Nat) vl0 [] [y, z]) j5) := by show _ = _; rw [HY4.out, he0]; rfl
              clear HY4 sd1 kd1 k5d1 gd1 xd1 xd21 k7 sd gd
              obtain ⟨⟨c0, c1, c2, c3, c4, c5⟩, f0, f1, f2, f3, f4, f5⟩ := six ke
              have kz := six_put ke (.int .i64 (kk : Int)) (.int .i64 0) (.int .i64 0) (.string ⟨#[]⟩) (.string ⟨#[]⟩) (.slice (some ⟨we.heap.size, 0, none⟩) 2 2)
              have sz := se.put6 hfr (.int .i64 (kk : Int)) (.int .i64 0) (.int .i64 0) (.string ⟨#[]⟩) (.string ⟨#[]⟩) (.slice (some ⟨we.heap.size, 0, none⟩) 2 2)
              have gz := grown_put6 ge (Nat.le_refl _) (.int .i64 (kk : Int)) (.int .i64 0) (.int .i64 0) (.string ⟨#[]⟩) (.string ⟨#[]⟩) (.slice (some ⟨we.heap.size, 0, none⟩) 2 2)
              have hsz := put6_size we w.heap.size (.int .i64 (kk : Int)) (.int .i64 0) (.int .i64 0) (.string ⟨#[]⟩) (.string ⟨#[]⟩) (.slice (some ⟨we.heap.size, 0, none⟩) 2 2)
              have hrb := (ltS kz)
              have hrw := (ltS ke)
              have xez := xe.put6 hrB (.int .i64 (kk : Int)) (.int .i64 0) (.int .i64 0) (.string ⟨#[]⟩) (.string ⟨#[]⟩) (.slice (some ⟨we.heap.size, 0, none⟩) 2 2)
              have xe2z := xe2.put6 hrB (.int .i64 (kk : Int)) (.int .i64 0) (.int .i64 0) (.string ⟨#[]⟩) (.string ⟨#[]⟩) (.slice (some ⟨we.heap.size, 0, none⟩) 2 2)
              clear oe he0
              go_wp2_with fail
              change bodyPost Tryz.prog Tryz.f173 _ _ _ ((put6 we w.heap.size (.int .i64 (kk : Int)) (.int .i64 0) (.int .i64 0) (.string ⟨#[]⟩) (.string ⟨#[]⟩) (.slice (some ⟨we.heap.size, 0, none⟩) 2 2)).alloc (.cells #[.int .i64 k, .int .i64 x.k, .int .i64 x.n, .string ⟨x.s.toArray⟩, .string ⟨nm.toArray⟩, .slice ao na ca, .int .i64 k2, .int .i64 x2.k, .int .i64 x2.n, .string ⟨x2.s.toArray⟩, .string ⟨nm2.toArray⟩, .slice ao2 na2 ca2] 29))
              generalize put6 we w.heap.size (.int .i64 (kk : Int)) (.int .i64 0) (.int .i64 0) (.string ⟨#[]⟩) (.string ⟨#[]⟩) (.slice (some ⟨we.heap.size, 0, none⟩) 2 2) = wz at *
              obtain ⟨⟨e0, e1, e2, e3, e4, e5⟩, -⟩ := six kz
              refine bodyPost_ret (v := exV (kk : Nat) vl0 [] (.slice (some ⟨we.heap.size, 0, none⟩) 2 2)) ?_ rfl (.mkOk (grown_alloc gz _) HL.out (by rw [← hsz]; exact (ex_two (heap_alloc_new wz _) (by rw [hsz]; exact hB1e) (xez.alloc _) (xe2z.alloc _) (kk : Nat) 2).weak hBw) (sz.alloc _))
              simp [results, Tryz.results173, go_sem, exV, vl0, e0, e1, e2, e3, e4, e5, hrb]
theorem expr_brk {w : World} {base pb : Nat} {v : Value} {T : List Tk} {en : Int} {i : Nat} (h : St w base pb v T en i) (f : Nat) (hf : f < 60) (hn2 : tx T i = [40])
    (ih : ∀ (W : World) (i : Nat), St W base pb v T en i → Calls Tryz.prog 173 #[.pointer (some ⟨pb, 0, none⟩), .int .i64 ((60 - f : Nat) : Int)] W fun e w' => Out W base pb v T en (repE W.heap.size) (brackP T (exprP T f) i) e w') :
    Calls Tryz.prog 150 #[.pointer (some ⟨pb, 0, none⟩), .int .i64 ((59 - f : Nat) : Int)] w fun e w' => Out w base pb v T en (repE w.heap.size) (exprP T (f + 1) i) e w' := by
  have hfr := h.fresh (Nat.le_refl _)
  have s0 := h.alloc (.cells #[.int .i64 0, .int .i64 0, .int .i64 0, .string ⟨#[]⟩, .string ⟨#[]⟩, .slice none 0 0] 29)
  have g0 := grown_alloc (grown_refl w (some pb)) (.cells #[.int .i64 0, .int .i64 0, .int .i64 0, .string ⟨#[]⟩, .string ⟨#[]⟩, .slice none 0 0] 29)
  have k0 : (w.alloc (.cells #[.int .i64 0, .int .i64 0, .int .i64 0, .string ⟨#[]⟩, .string ⟨#[]⟩, .slice none 0 0] 29)).heap[w.heap.size]? = some (.cells #[.int .i64 0, .int .i64 0, .int .i64 0, .string ⟨#[]⟩, .string ⟨#[]⟩, .slice none 0 0] 29) := heap_alloc_new _ _
  have hn1 : tx T i ≠ w_not := by rw [hn2]; decide
  have HR : Hid (exprP T (f + 1) i = brackP T (exprP T f) (i + 1)) := by show _ = _; rw [exprP, if_neg hn1, if_pos hn2]
  have hm : ((59 - f : Nat) : Int) < 60 := by omega
  have hm0 : 0 ≤ ((59 - f : Nat) : Int) := by omega
  have hm1 : ((60 - f : Nat) : Int) = ((59 - f : Nat) : Int) + 1 := by omega
  rw [hm1] at ih
  generalize ((59 - f : Nat) : Int) = m at hm hm0 ih ⊢
  have m1 := may_nil s0 w_not (by decide)
  simp only [hn1, if_false, decide_false] at m1
  clear hm1 hf
  go_enter Tryz.func150, Tryz.ntmps150
  go_wp2_with fail
  refine m1.mono ?_
  rintro e wb ⟨rfl, gb', sb⟩
  have kb := (gb'.block w.heap.size (ltS k0) (by simpa using hfr.1)).trans k0
  have gb := grown_trans g0 gb'
  have m2 := may_nil sb [40] (by decide)
  simp only [hn2, if_true, decide_true] at m2
  clear m1 gb' k0 s0 g0 hn1 hn2
  go_wp2_with fail
  refine m2.mono ?_
  rintro e wc ⟨rfl, gc', sc⟩
  have kc := (gc'.block w.heap.size (ltS kb) (by simpa using hfr.1)).trans kb
  have gc := grown_trans gb gc'
  have hwc := (ltS kc)
  clear m2 gc' kb sb gb
  go_wp2_with fail
  refine (ih _ _ sc).mono ?_
  intro e wd od
  have gd := grown_trans gc od.grown
  cases hy : brackP T (exprP T f) (i + 1) with
  | bad j =>
    obtain rfl := od.bad j hy
    exact ⟨rfl, .mkBad gd (by rw [HR.out, hy])⟩
  | ok y j =>
    obtain ⟨u, rfl, xd, sd⟩ := od.ok y j hy
    obtain ⟨k, x, nm, ao, na, ca, rfl⟩ := ExAt.form xd
    have kd_ := (od.grown.block w.heap.size hwc (by simpa using hfr.1)).trans kc
    have HL : Hid (exprP T (f + 1) i = .ok y j) := by show _ = _; rw [HR.out, hy]
    have xd : ExAt wc.heap.size wd (exV k x nm (.slice ao na ca)) y := xd
    clear kc sc HR ih
    rw [exV]
    obtain ⟨⟨c0, c1, c2, c3, c4, c5⟩, f0, f1, f2, f3, f4, f5⟩ := six kd_
    have kz := six_put kd_ (.int .i64 k) (.int .i64 x.k) (.int .i64 x.n) (.string ⟨x.s.toArray⟩) (.string ⟨nm.toArray⟩) (.slice ao na ca)
    have sz := sd.put6 hfr (.int .i64 k) (.int .i64 x.k) (.int .i64 x.n) (.string ⟨x.s.toArray⟩) (.string ⟨nm.toArray⟩) (.slice ao na ca)
    have gz := grown_put6 gd (Nat.le_refl _) (.int .i64 k) (.int .i64 x.k) (.int .i64 x.n) (.string ⟨x.s.toArray⟩) (.string ⟨nm.toArray⟩) (.slice ao na ca)
    have hx : repE w.heap.size (put6 wd w.heap.size (.int .i64 k) (.int .i64 x.k) (.int .i64 x.n) (.string ⟨x.s.toArray⟩) (.string ⟨nm.toArray⟩) (.slice ao na ca)) (exV k x nm (.slice ao na ca)) y := ((xd.put6 hwc _ _ _ _ _ _).weak gc.size : ExAt _ _ _ _)
    clear kd_ sd gd od hy xd hwc gc
    go_wp2_with fail
    change bodyPost Tryz.prog Tryz.f150 _ _ _ (put6 wd w.heap.size (.int .i64 k) (.int .i64 x.k) (.int .i64 x.n) (.string ⟨x.s.toArray⟩) (.string ⟨nm.toArray⟩) (.slice ao na ca))
    generalize put6 wd w.heap.size (.int .i64 k) (.int .i64 x.k) (.int .i64 x.n) (.string ⟨x.s.toArray⟩) (.string ⟨nm.toArray⟩) (.slice ao na ca) = wz at *
    obtain ⟨⟨e0, e1, e2, e3, e4, e5⟩, -⟩ := six kz
    refine bodyPost_ret (v := exV k x nm (.slice ao na ca)) ?_ rfl (.mkOk gz HL.out hx sz)
    simp [results, Tryz.results150, go_sem, exV, e0, e1, e2, e3, e4, e5]
theorem expr_any {base pb : Nat} {v : Value} {T : List Tk} {en : Int} (f : Nat) : ∀ (_ : f ≤ 60) (w : World) (i : Nat) (_ : St w base pb v T en i),
    Calls Tryz.prog 150 #[.pointer (some ⟨pb, 0, none⟩), .int .i64 ((60 - f : Nat) : Int)] w fun e w' => Out w base pb v T en (repE w.heap.size) (exprP T f i) e w' := by
  induction f with
  | zero => intro hf w i h; exact expr_zero h
  | succ f ih =>
    intro hf w i h
    rw [show 60 - (f + 1) = 59 - f by omega]
    by_cases h1 : tx T i = w_not
    · exact expr_not h f (by omega) h1 fun W j hW => ih (by omega) W j hW
    by_cases h2 : tx T i = [40]
    · exact expr_brk h f (by omega) h2 fun W j hW => bracket_any hW _ f fun W j hW => ih (by omega) W j hW
    · exact expr_leaf h f (by omega) h1 h2
def RowAt (B : Nat) (w : World) (u : Value) (n : Nat) (xs : List Value) : Prop :=
  (n = 0 ∧ ∃ ao cap, u = .slice ao 0 cap) ∨ ∃ b off cap, u = .slice (some ⟨b, off, none⟩) n cap ∧ B ≤ b ∧ b < w.heap.size ∧ ∀ j x, xs[j]? = some x → w.cell? ⟨b, off + j, none⟩ = some x
theorem RowAt.keep {B : Nat} {w w' : World} {u : Value} {n : Nat} {xs : List Value} (h : RowAt B w u n xs) (hs : w.heap.size ≤ w'.heap.size) (hk : ∀ b, B ≤ b → b < w.heap.size → w'.heap[b]? = w.heap[b]?) : RowAt B w' u n xs := by
  rcases h with h | ⟨b, off, cap, hu, hB, hl, hc⟩
  · exact .inl h
  · exact .inr ⟨b, off, cap, hu, hB, Nat.lt_of_lt_of_le hl hs, fun j x hj => (World.cell?_of_block (w := w) (hk b hB hl)).trans (hc j x hj)⟩
theorem RowAt.grown {B pb : Nat} {w w' : World} {u : Value} {n : Nat} {xs : List Value} (h : RowAt B w u n xs) (hp : pb < B) (hg : w.grownBy w' (some pb)) : RowAt B w' u n xs :=
  h.keep hg.size fun b hB hs => hg.block b hs (by simp only [ne_eq, Option.some.injEq]; omega)
theorem RowAt.under {B : Nat} {w w' : World} {u : Value} {n : Nat} {xs : List Value} (h : RowAt B w u n xs) (hb : Below w.heap.size w w') : RowAt B w' u n xs :=
  h.keep hb.size fun b _ hs => hb.block b hs
theorem RowAt.weak {B B' : Nat} {w : World} {u : Value} {n : Nat} {xs : List Value} (h : RowAt B w u n xs) (hB : B' ≤ B) : RowAt B' w u n xs := by
  rcases h with h | ⟨b, off, cap, hu, hb, hl, hc⟩
  · exact .inl h
  · exact .inr ⟨b, off, cap, hu, Nat.le_trans hB hb, hl, hc⟩
theorem RowAt.form {B : Nat} {w : World} {u : Value} {n : Nat} {xs : List Value} (h : RowAt B w u n xs) : ∃ ao cap, u = .slice ao n cap := by
  rcases h with ⟨rfl, ao, cap, rfl⟩ | ⟨b, off, cap, rfl, -⟩
  · exact ⟨_, _, rfl⟩
  · exact ⟨_, _, rfl⟩
theorem RowAt.nil (B : Nat) (w : World) (xs : List Value) : RowAt B w (.slice none 0 0) 0 xs := .inl ⟨rfl, _, _, rfl⟩
theorem row_of {B : Nat} {w : World} {e : TypeId} {size : Nat} {u : Value} {n : Nat} {xs : List Value} (h : w.ownsRow B e size u n xs) : RowAt B w u n xs := by
  rcases h.2 with ⟨hv, h0⟩ | ⟨g, cap, cur, hv, hb, hg, hrest⟩
  · exact .inl ⟨h0, none, 0, hv⟩
  · refine .inr ⟨g, 0, cap, hv, hb, (ltS hg), fun j x hj => ?_⟩
    rw [hv] at h
    rw [Nat.zero_add]
    exact owned_at h j x hj
def clC (c : Cl) : List Value := [.string ⟨c.name.toArray⟩, .int .i64 c.ty]
def vlC (x : Vl) : List Value := [.int .i64 x.k, .int .i64 x.n, .string ⟨x.s.toArray⟩]
def stC (s : List UInt8) : List Value := [.string ⟨s.toArray⟩]
def atP (w : World) (pb : Nat) : Nat := match w.cell? ⟨pb, 1, none⟩ with | some x => (intOf x).toNat | none => 0
theorem St.at {w : World} {base pb : Nat} {v : Value} {T : List Tk} {en : Int} {i : Nat} (h : St w base pb v T en i) : atP w pb = i := by
  obtain ⟨⟨-, c1, -⟩, -⟩ := three h.blk
  simp [atP, c1, intOf]
theorem owns_new (w : World) (B : Nat) (e : TypeId) (size : Nat) (cs : Array Value) (hs : cs.size = size) (hB : B ≤ w.heap.size) : (w.alloc (.cells cs e)).ownsRow B e size (.slice (some ⟨w.heap.size, 0, none⟩) 1 1) 1 cs.toList := by
  refine ⟨by simp [hs], .inr ⟨w.heap.size, 1, cs, rfl, hB, heap_alloc_new _ _, Nat.le_refl _, by decide, by omega, ?_⟩⟩
  rw [List.take_of_length_le]
  simp [hs]
theorem nameP_mono (T : List Tk) (i j : Nat) (a : List UInt8) (h : nameP T i = .ok a j) : i ≤ j := by
  rw [nameP] at h; split at h
  · cases h; omega
  · cases h
theorem kindOf_mono (T : List Tk) (f : List UInt8 → Nat) (i j a : Nat) (h : kindOf T f i = .ok a j) : i ≤ j := by
  rw [kindOf] at h; split at h
  · cases h
  · cases h; omega
theorem numberP_mono (T : List Tk) (l i j a : Nat) (h : numberP T l i = .ok a j) : i ≤ j := by
  rw [numberP] at h; split at h
  · cases h; omega
  · cases h
theorem then_ok {α β : Type} {r : Rs α} {f : α → Nat → Rs β} {b : β} {j : Nat} (h : r.then f = .ok b j) : ∃ a k, r = .ok a k ∧ f a k = .ok b j := by
  cases r with
  | ok a k => exact ⟨a, k, rfl, h⟩
  | bad k => cases h
theorem columnP_mono (T : List Tk) (i j : Nat) (a : Cl) (h : columnP T i = .ok a j) : i ≤ j := by
  obtain ⟨s, k, h1, h2⟩ := then_ok h
  obtain ⟨s2, k2, h3, h4⟩ := then_ok h2
  cases h4
  exact Nat.le_trans (nameP_mono T i k s h1) (kindOf_mono T _ k _ _ h3)
theorem oneOf_mono (T : List Tk) (i j : Nat) (s : List UInt8) : ∀ ws, oneOf T ws i = .ok s j → i ≤ j := by
  intro ws
  induction ws with
  | nil => intro h; cases h
  | cons x r ih =>
    intro h
    rw [oneOf] at h
    split at h
    · cases h; omega
    · exact ih h
theorem valueP_mono (T : List Tk) (i j : Nat) (a : Vl) (h : valueP T i = .ok a j) : i ≤ j := by
  rw [valueP] at h
  split at h
  · obtain ⟨n, k, h1, h2⟩ := then_ok h
    cases h2
    exact numberP_mono T 0 i _ _ h1
  · split at h
    · cases h; omega
    · obtain ⟨s, k, h1, h2⟩ := then_ok h
      have := oneOf_mono T i k s _ h1
      split at h2
      · obtain ⟨n, k2, h3, h4⟩ := then_ok h2
        cases h4
        exact Nat.le_trans this (numberP_mono T 1 _ _ _ h3)
      · split at h2
        · cases h2; exact this
        · split at h2
          · cases h2; exact this
          · cases h2; exact this
theorem hmf (fn : Fn) (first cap : Array Value) (w : World) : (Instr.makeFunc fn first cap).run Tryz.prog w = .ok (.func fn first cap) w := rfl
theorem Tryz.info_col : (Tryz.prog.info? 56).map (fun i => (i.zero, i.size, i.bytes)) = some (some (.agg #[.string ⟨#[]⟩, .int .i64 0]), 2, 24) := by kernel_rfl
theorem list_col {w : World} {base pb : Nat} {v : Value} {T : List Tk} {en : Int} {i : Nat} (h : St w base pb v T en i) :
    Calls Tryz.prog 169 #[.pointer (some ⟨pb, 0, none⟩), .func (.func 144) #[.pointer (some ⟨pb, 0, none⟩)] #[]] w fun e w' =>
      Out w base pb v T en (fun w' u (l : List (Cl)) => w'.ownsRow w.heap.size 56 2 u l.length (l.flatMap clC)) (listP T (columnP T) i) e w' := by
  obtain ⟨i0, hi, hz0, hz1, hz2⟩ := info_parts Tryz.info_col
  have hfw := h.few
  have hpl := h.heapLt
  go_enter Tryz.func169, Tryz.ntmps169
  go_wp2_with fail
  refine (column_any h).mono ?_
  intro e wa oa
  have ga := oa.grown
  cases hy : columnP T i with
  | bad j =>
    obtain rfl := oa.bad j hy
    exact ⟨rfl, .mkBad ga (by rw [listP, hy]; rfl)⟩
  | ok x j =>
    obtain ⟨u, rfl, hu, sa⟩ := oa.ok x j hy
    cases hu
    have HL : Hid (listP T (columnP T) i = listGo T (columnP T) (T.length + 1) [x] j) := by show _ = _; rw [listP, hy]; rfl
    have hij := columnP_mono T i j x hy
    have sa1 := sa.alloc (.cells #[.string ⟨x.name.toArray⟩, .int .i64 x.ty] 56)
    have ga1 := grown_alloc ga (.cells #[.string ⟨x.name.toArray⟩, .int .i64 x.ty] 56)
    have ow := owns_new wa w.heap.size 56 2 #[.string ⟨x.name.toArray⟩, .int .i64 x.ty] rfl ga.size
    clear hy oa ga sa
    rw [clV]
    go_wp2_with fail
    go_loopw [5] (fun l wr => ∃ (acc : List (Cl)) (j f : Nat), wr.ownsRow w.heap.size 56 2 l acc.length (acc.flatMap clC) ∧ w.grownBy wr (some pb) ∧ St wr base pb v T en j ∧ T.length < f + j ∧ acc.length ≤ j + 1 ∧ Hid (listP T (columnP T) i = listGo T (columnP T) f acc j)) (fun _ wr => T.length + 1 - atP wr pb)
    case atStart => exact ⟨[x], j, T.length + 1, ow, ga1, sa1, by omega, by simp, HL⟩
    case round =>
      obtain ⟨acc, j, f, hown, hg, hst, hf, hacc, HE⟩ := hrel
      have hat := hst.at
      have hjl := hst.le
      have hmay := may_nil hst [44] (by decide)
      clear HL hij ow ga1 sa1
      by_cases hc : tx T j = [44]
      · have hjlt : j < T.length := tx_lt (by rw [hc]; decide)
        simp only [hc, if_true, decide_true] at hmay
        obtain ⟨f', rfl⟩ : ∃ f', f = f' + 1 := ⟨f - 1, by omega⟩
        have HE2 : Hid (listP T (columnP T) i = (columnP T (j + 1)).then fun x j => listGo T (columnP T) f' (acc ++ [x]) j) := by show _ = _; rw [HE.out, listGo, if_pos hc]
        clear HE hc
        go_wp2_with (go_at_call 141; refine hmay.mono ?_; rintro e wb ⟨rfl, gb, sb⟩)
        refine (column_any sb).mono ?_
        intro e wc oc
        have gc := grown_trans gb oc.grown
        cases hz : columnP T (j + 1) with
        | bad j2 =>
          obtain rfl := oc.bad j2 hz
          exact ⟨rfl, .mkBad (grown_trans hg gc) (by rw [HE2.out, hz]; rfl)⟩
        | ok x j2 =>
          obtain ⟨u, rfl, hu, sc⟩ := oc.ok x j2 hz
          cases hu
          have hjj := columnP_mono T _ _ _ hz
          have HE3 : Hid (listP T (columnP T) i = listGo T (columnP T) f' (acc ++ [x]) j2) := by show _ = _; rw [HE2.out, hz]; rfl
          have hown2 := (hown.kept gc (by
            rcases hown.2 with ⟨hv, -⟩ | ⟨g, cap, cur, hv, hb, -⟩
            · rw [hv]; exact .inl rfl
            · rw [hv]; right; simp only [Value.ownBlock, ne_eq, Option.some.injEq]; omega)).alloc (.cells #[.string ⟨x.name.toArray⟩, .int .i64 x.ty] 56)
          have sc1 := sc.alloc (.cells #[.string ⟨x.name.toArray⟩, .int .i64 x.ty] 56)
          have hlt5 := hown2.lt
          have hgs := hg.size
          have hgs2 := gc.size
          have hjl2 := sc.le
          clear HE2 hz oc hown sb hmay
          rw [clV]
          go_wp2_with (at_builtin; refine wpList_append_own _ rfl _ _ 22 rfl w.heap.size 56 i0 (.agg #[.string ⟨#[]⟩, .int .i64 0]) 2 24 Tryz.underlying22 hi hz0 hz1 hz2 rfl (by decide) _ _ _ rfl hown2 ⟨wc.heap.size, 0, none⟩ 1 1 [.string ⟨x.name.toArray⟩, .int .i64 x.ty] rfl rfl ?c1 ?c2 ?c3 ?c4 ?c5 ?_)
          case c1 =>
            intro j u hj
            match j, hj with
              | 0, hj => simp at hj; subst hj; simp [Addr.add]
              | 1, hj => simp at hj; subst hj; simp [Addr.add]
          case c2 => intro u hu; simp at hu; rcases hu with rfl | rfl <;> rfl
          case c3 => unfold maxLen; omega
          case c4 => omega
          case c5 => simp; omega
          intro v' w3 hown' hgrow _
          have hg3 : w.grownBy w3 (some pb) := by
            have q := grown_alloc (grown_trans hg gc) (.cells #[.string ⟨x.name.toArray⟩, .int .i64 x.ty] 56)
            refine ⟨hgrow.os.trans q.os, hgrow.tape.trans q.tape, hgrow.output.trans q.output, Nat.le_trans q.size hgrow.size, fun k hk hr => (hgrow.block k (Nat.lt_of_lt_of_le hk q.size) ?_).trans (q.block k hk hr)⟩
            intro e
            have := (hlt5 _ e.symm).1
            omega
          have sc3 : St w3 base pb v T en j2 := by
            have hpb : some pb ≠ _ := fun e => by have := (hlt5 _ e.symm).1; omega
            refine ⟨(hgrow.block pb sc1.heapLt hpb).trans sc1.blk, sc1.own.kept hgrow ?_, sc1.ne, sc1.le, sc1.few, sc1.six, sc1.gl.keep hgrow.size fun k hk => hgrow.block k (Nat.lt_of_lt_of_le hk sc1.gl.sz) (fun e => by have := (hlt5 _ e.symm).1; have := h.gl.sz; omega), sc1.toks⟩
            rcases h.own.2 with ⟨hv, -⟩ | ⟨g, cap, cur, hv, -, hgg, -⟩
            · rw [hv]; exact .inl rfl
            · right
              intro e
              rw [hv] at e
              have := (hlt5 g e.symm).1
              have := (ltS hgg)
              omega
          have R3 : w3.ownsRow w.heap.size 56 2 v' (acc ++ [x]).length ((acc ++ [x]).flatMap clC) := by
            rw [List.length_append, List.flatMap_append]
            have e1 : [x].flatMap clC = clC x := by simp
            rw [e1]; exact hown'
          have hat3 := sc3.at
          clear hown' hgrow hown2 hlt5 sc1 sc gc hg
          go_wp2
          go_roundw
          case rel => exact ⟨acc ++ [x], j2, f', R3, hg3, sc3, by omega, by simp; omega, HE3⟩
          case measure => rw [hat3, hat]; omega
      · simp only [hc, if_false, decide_false] at hmay
        have HE2 : Hid (listP T (columnP T) i = .ok acc j) := by
          show _ = _
          rw [HE.out]
          cases f with
          | zero => rfl
          | succ f => rw [listGo, if_neg hc]
        clear HE hc
        have hgb := fun (wb : World) (gb : wr.grownBy wb (some pb)) => hown.kept gb (by
          rcases hown.2 with ⟨hv, -⟩ | ⟨g, cap, cur, hv, hb, -⟩
          · rw [hv]; exact .inl rfl
          · rw [hv]; right; simp only [Value.ownBlock, ne_eq, Option.some.injEq]; omega)
        obtain ⟨ao, cap, hv⟩ := owns_slice hown
        subst hv
        clear hown
        go_wp2_with (go_at_call 141; refine hmay.mono ?_; rintro e wb ⟨rfl, gb, sb⟩)
        go_ret
        exact .mkOk (grown_trans hg gb) HE2.out (hgb _ gb) sb
theorem Tryz.info_val : (Tryz.prog.info? 24).map (fun i => (i.zero, i.size, i.bytes)) = some (some (.agg #[.int .i64 0, .int .i64 0, .string ⟨#[]⟩]), 3, 32) := by kernel_rfl
theorem list_val {w : World} {base pb : Nat} {v : Value} {T : List Tk} {en : Int} {i : Nat} (h : St w base pb v T en i) :
    Calls Tryz.prog 172 #[.pointer (some ⟨pb, 0, none⟩), .func (.func 146) #[.pointer (some ⟨pb, 0, none⟩)] #[]] w fun e w' =>
      Out w base pb v T en (fun w' u (l : List (Vl)) => w'.ownsRow w.heap.size 24 3 u l.length (l.flatMap vlC)) (listP T (valueP T) i) e w' := by
  obtain ⟨i0, hi, hz0, hz1, hz2⟩ := info_parts Tryz.info_val
  have hfw := h.few
  have hpl := h.heapLt
  go_enter Tryz.func172, Tryz.ntmps172
  go_wp2_with fail
  refine (value_any h).mono ?_
  intro e wa oa
  have ga := oa.grown
  cases hy : valueP T i with
  | bad j =>
    obtain rfl := oa.bad j hy
    exact ⟨rfl, .mkBad ga (by rw [listP, hy]; rfl)⟩
  | ok x j =>
    obtain ⟨u, rfl, hu, sa⟩ := oa.ok x j hy
    cases hu
    have HL : Hid (listP T (valueP T) i = listGo T (valueP T) (T.length + 1) [x] j) := by show _ = _; rw [listP, hy]; rfl
    have hij := valueP_mono T i j x hy
    have sa1 := sa.alloc (.cells #[.int .i64 x.k, .int .i64 x.n, .string ⟨x.s.toArray⟩] 24)
    have ga1 := grown_alloc ga (.cells #[.int .i64 x.k, .int .i64 x.n, .string ⟨x.s.toArray⟩] 24)
    have ow := owns_new wa w.heap.size 24 3 #[.int .i64 x.k, .int .i64 x.n, .string ⟨x.s.toArray⟩] rfl ga.size
    clear hy oa ga sa
    rw [vlV]
    go_wp2_with fail
    go_loopw [5] (fun l wr => ∃ (acc : List (Vl)) (j f : Nat), wr.ownsRow w.heap.size 24 3 l acc.length (acc.flatMap vlC) ∧ w.grownBy wr (some pb) ∧ St wr base pb v T en j ∧ T.length < f + j ∧ acc.length ≤ j + 1 ∧ Hid (listP T (valueP T) i = listGo T (valueP T) f acc j)) (fun _ wr => T.length + 1 - atP wr pb)
    case atStart => exact ⟨[x], j, T.length + 1, ow, ga1, sa1, by omega, by simp, HL⟩
    case round =>
      obtain ⟨acc, j, f, hown, hg, hst, hf, hacc, HE⟩ := hrel
      have hat := hst.at
      have hjl := hst.le
      have hmay := may_nil hst [44] (by decide)
      clear HL hij ow ga1 sa1
      by_cases hc : tx T j = [44]
      · have hjlt : j < T.length := tx_lt (by rw [hc]; decide)
        simp only [hc, if_true, decide_true] at hmay
        obtain ⟨f', rfl⟩ : ∃ f', f = f' + 1 := ⟨f - 1, by omega⟩
        have HE2 : Hid (listP T (valueP T) i = (valueP T (j + 1)).then fun x j => listGo T (valueP T) f' (acc ++ [x]) j) := by show _ = _; rw [HE.out, listGo, if_pos hc]
        clear HE hc
        go_wp2_with (go_at_call 141; refine hmay.mono ?_; rintro e wb ⟨rfl, gb, sb⟩)
        refine (value_any sb).mono ?_
        intro e wc oc
        have gc := grown_trans gb oc.grown
        cases hz : valueP T (j + 1) with
        | bad j2 =>
          obtain rfl := oc.bad j2 hz
          exact ⟨rfl, .mkBad (grown_trans hg gc) (by rw [HE2.out, hz]; rfl)⟩
        | ok x j2 =>
          obtain ⟨u, rfl, hu, sc⟩ := oc.ok x j2 hz
          cases hu
          have hjj := valueP_mono T _ _ _ hz
          have HE3 : Hid (listP T (valueP T) i = listGo T (valueP T) f' (acc ++ [x]) j2) := by show _ = _; rw [HE2.out, hz]; rfl
          have hown2 := (hown.kept gc (by
            rcases hown.2 with ⟨hv, -⟩ | ⟨g, cap, cur, hv, hb, -⟩
            · rw [hv]; exact .inl rfl
            · rw [hv]; right; simp only [Value.ownBlock, ne_eq, Option.some.injEq]; omega)).alloc (.cells #[.int .i64 x.k, .int .i64 x.n, .string ⟨x.s.toArray⟩] 24)
          have sc1 := sc.alloc (.cells #[.int .i64 x.k, .int .i64 x.n, .string ⟨x.s.toArray⟩] 24)
          have hlt5 := hown2.lt
          have hgs := hg.size
          have hgs2 := gc.size
          have hjl2 := sc.le
          clear HE2 hz oc hown sb hmay
          rw [vlV]
          go_wp2_with (at_builtin; refine wpList_append_own _ rfl _ _ 25 rfl w.heap.size 24 i0 (.agg #[.int .i64 0, .int .i64 0, .string ⟨#[]⟩]) 3 32 Tryz.underlying25 hi hz0 hz1 hz2 rfl (by decide) _ _ _ rfl hown2 ⟨wc.heap.size, 0, none⟩ 1 1 [.int .i64 x.k, .int .i64 x.n, .string ⟨x.s.toArray⟩] rfl rfl ?c1 ?c2 ?c3 ?c4 ?c5 ?_)
          case c1 =>
            intro j u hj
            match j, hj with
              | 0, hj => simp at hj; subst hj; simp [Addr.add]
              | 1, hj => simp at hj; subst hj; simp [Addr.add]
              | 2, hj => simp at hj; subst hj; simp [Addr.add]
          case c2 => intro u hu; simp at hu; rcases hu with rfl | rfl | rfl <;> rfl
          case c3 => unfold maxLen; omega
          case c4 => omega
          case c5 => simp; omega
          intro v' w3 hown' hgrow _
          have hg3 : w.grownBy w3 (some pb) := by
            have q := grown_alloc (grown_trans hg gc) (.cells #[.int .i64 x.k, .int .i64 x.n, .string ⟨x.s.toArray⟩] 24)
            refine ⟨hgrow.os.trans q.os, hgrow.tape.trans q.tape, hgrow.output.trans q.output, Nat.le_trans q.size hgrow.size, fun k hk hr => (hgrow.block k (Nat.lt_of_lt_of_le hk q.size) ?_).trans (q.block k hk hr)⟩
            intro e
            have := (hlt5 _ e.symm).1
            omega
          have sc3 : St w3 base pb v T en j2 := by
            have hpb : some pb ≠ _ := fun e => by have := (hlt5 _ e.symm).1; omega
            refine ⟨(hgrow.block pb sc1.heapLt hpb).trans sc1.blk, sc1.own.kept hgrow ?_, sc1.ne, sc1.le, sc1.few, sc1.six, sc1.gl.keep hgrow.size fun k hk => hgrow.block k (Nat.lt_of_lt_of_le hk sc1.gl.sz) (fun e => by have := (hlt5 _ e.symm).1; have := h.gl.sz; omega), sc1.toks⟩
            rcases h.own.2 with ⟨hv, -⟩ | ⟨g, cap, cur, hv, -, hgg, -⟩
            · rw [hv]; exact .inl rfl
            · right
              intro e
              rw [hv] at e
              have := (hlt5 g e.symm).1
              have := (ltS hgg)
              omega
          have R3 : w3.ownsRow w.heap.size 24 3 v' (acc ++ [x]).length ((acc ++ [x]).flatMap vlC) := by
            rw [List.length_append, List.flatMap_append]
            have e1 : [x].flatMap vlC = vlC x := by simp
            rw [e1]; exact hown'
          have hat3 := sc3.at
          clear hown' hgrow hown2 hlt5 sc1 sc gc hg
          go_wp2
          go_roundw
          case rel => exact ⟨acc ++ [x], j2, f', R3, hg3, sc3, by omega, by simp; omega, HE3⟩
          case measure => rw [hat3, hat]; omega
      · simp only [hc, if_false, decide_false] at hmay
        have HE2 : Hid (listP T (valueP T) i = .ok acc j) := by
          show _ = _
          rw [HE.out]
          cases f with
          | zero => rfl
          | succ f => rw [listGo, if_neg hc]
        clear HE hc
        have hgb := fun (wb : World) (gb : wr.grownBy wb (some pb)) => hown.kept gb (by
          rcases hown.2 with ⟨hv, -⟩ | ⟨g, cap, cur, hv, hb, -⟩
          · rw [hv]; exact .inl rfl
          · rw [hv]; right; simp only [Value.ownBlock, ne_eq, Option.some.injEq]; omega)
        obtain ⟨ao, cap, hv⟩ := owns_slice hown
        subst hv
        clear hown
        go_wp2_with (go_at_call 141; refine hmay.mono ?_; rintro e wb ⟨rfl, gb, sb⟩)
        go_ret
        exact .mkOk (grown_trans hg gb) HE2.out (hgb _ gb) sb
theorem Tryz.info_str : (Tryz.prog.info? 9).map (fun i => (i.zero, i.size, i.bytes)) = some (some (.string ⟨#[]⟩), 1, 16) := by kernel_rfl
theorem list_str {w : World} {base pb : Nat} {v : Value} {T : List Tk} {en : Int} {i : Nat} (h : St w base pb v T en i) :
    Calls Tryz.prog 151 #[.pointer (some ⟨pb, 0, none⟩), .func (.func 142) #[.pointer (some ⟨pb, 0, none⟩)] #[]] w fun e w' =>
      Out w base pb v T en (fun w' u (l : List (List UInt8)) => w'.ownsRow w.heap.size 9 1 u l.length (l.flatMap stC)) (listP T (nameP T) i) e w' := by
  obtain ⟨i0, hi, hz0, hz1, hz2⟩ := info_parts Tryz.info_str
  have hfw := h.few
  have hpl := h.heapLt
  go_enter Tryz.func151, Tryz.ntmps151
  go_wp2_with fail
  refine (name_any h).mono ?_
  intro e wa oa
  have ga := oa.grown
  cases hy : nameP T i with
  | bad j =>
    obtain rfl := oa.bad j hy
    exact ⟨rfl, .mkBad ga (by rw [listP, hy]; rfl)⟩
  | ok x j =>
    obtain ⟨u, rfl, hu, sa⟩ := oa.ok x j hy
    cases hu
    have HL : Hid (listP T (nameP T) i = listGo T (nameP T) (T.length + 1) [x] j) := by show _ = _; rw [listP, hy]; rfl
    have hij := nameP_mono T i j x hy
    have sa1 := sa.alloc (.cells #[.string ⟨x.toArray⟩] 9)
    have ga1 := grown_alloc ga (.cells #[.string ⟨x.toArray⟩] 9)
    have ow := owns_new wa w.heap.size 9 1 #[.string ⟨x.toArray⟩] rfl ga.size
    clear hy oa ga sa
    go_wp2_with fail
    go_loopw [5] (fun l wr => ∃ (acc : List (List UInt8)) (j f : Nat), wr.ownsRow w.heap.size 9 1 l acc.length (acc.flatMap stC) ∧ w.grownBy wr (some pb) ∧ St wr base pb v T en j ∧ T.length < f + j ∧ acc.length ≤ j + 1 ∧ Hid (listP T (nameP T) i = listGo T (nameP T) f acc j)) (fun _ wr => T.length + 1 - atP wr pb)
    case atStart => exact ⟨[x], j, T.length + 1, ow, ga1, sa1, by omega, by simp, HL⟩
    case round =>
      obtain ⟨acc, j, f, hown, hg, hst, hf, hacc, HE⟩ := hrel
      have hat := hst.at
      have hjl := hst.le
      have hmay := may_nil hst [44] (by decide)
      clear HL hij ow ga1 sa1
      by_cases hc : tx T j = [44]
      · have hjlt : j < T.length := tx_lt (by rw [hc]; decide)
        simp only [hc, if_true, decide_true] at hmay
        obtain ⟨f', rfl⟩ : ∃ f', f = f' + 1 := ⟨f - 1, by omega⟩
        have HE2 : Hid (listP T (nameP T) i = (nameP T (j + 1)).then fun x j => listGo T (nameP T) f' (acc ++ [x]) j) := by show _ = _; rw [HE.out, listGo, if_pos hc]
        clear HE hc
        go_wp2_with (go_at_call 141; refine hmay.mono ?_; rintro e wb ⟨rfl, gb, sb⟩)
        refine (name_any sb).mono ?_
        intro e wc oc
        have gc := grown_trans gb oc.grown
        cases hz : nameP T (j + 1) with
        | bad j2 =>
          obtain rfl := oc.bad j2 hz
          exact ⟨rfl, .mkBad (grown_trans hg gc) (by rw [HE2.out, hz]; rfl)⟩
        | ok x j2 =>
          obtain ⟨u, rfl, hu, sc⟩ := oc.ok x j2 hz
          cases hu
          have hjj := nameP_mono T _ _ _ hz
          have HE3 : Hid (listP T (nameP T) i = listGo T (nameP T) f' (acc ++ [x]) j2) := by show _ = _; rw [HE2.out, hz]; rfl
          have hown2 := (hown.kept gc (by
            rcases hown.2 with ⟨hv, -⟩ | ⟨g, cap, cur, hv, hb, -⟩
            · rw [hv]; exact .inl rfl
            · rw [hv]; right; simp only [Value.ownBlock, ne_eq, Option.some.injEq]; omega)).alloc (.cells #[.string ⟨x.toArray⟩] 9)
          have sc1 := sc.alloc (.cells #[.string ⟨x.toArray⟩] 9)
          have hlt5 := hown2.lt
          have hgs := hg.size
          have hgs2 := gc.size
          have hjl2 := sc.le
          clear HE2 hz oc hown sb hmay
          go_wp2_with (at_builtin; refine wpList_append_own _ rfl _ _ 26 rfl w.heap.size 9 i0 (.string ⟨#[]⟩) 1 16 Tryz.underlying26 hi hz0 hz1 hz2 rfl (by decide) _ _ _ rfl hown2 ⟨wc.heap.size, 0, none⟩ 1 1 [.string ⟨x.toArray⟩] rfl rfl ?c1 ?c2 ?c3 ?c4 ?c5 ?_)
          case c1 =>
            intro j u hj
            match j, hj with
              | 0, hj => simp at hj; subst hj; simp [Addr.add]
          case c2 => intro u hu; simp at hu; rcases hu with rfl <;> rfl
          case c3 => unfold maxLen; omega
          case c4 => omega
          case c5 => simp; omega
          intro v' w3 hown' hgrow _
          have hg3 : w.grownBy w3 (some pb) := by
            have q := grown_alloc (grown_trans hg gc) (.cells #[.string ⟨x.toArray⟩] 9)
            refine ⟨hgrow.os.trans q.os, hgrow.tape.trans q.tape, hgrow.output.trans q.output, Nat.le_trans q.size hgrow.size, fun k hk hr => (hgrow.block k (Nat.lt_of_lt_of_le hk q.size) ?_).trans (q.block k hk hr)⟩
            intro e
            have := (hlt5 _ e.symm).1
            omega
          have sc3 : St w3 base pb v T en j2 := by
            have hpb : some pb ≠ _ := fun e => by have := (hlt5 _ e.symm).1; omega
            refine ⟨(hgrow.block pb sc1.heapLt hpb).trans sc1.blk, sc1.own.kept hgrow ?_, sc1.ne, sc1.le, sc1.few, sc1.six, sc1.gl.keep hgrow.size fun k hk => hgrow.block k (Nat.lt_of_lt_of_le hk sc1.gl.sz) (fun e => by have := (hlt5 _ e.symm).1; have := h.gl.sz; omega), sc1.toks⟩
            rcases h.own.2 with ⟨hv, -⟩ | ⟨g, cap, cur, hv, -, hgg, -⟩
            · rw [hv]; exact .inl rfl
            · right
              intro e
              rw [hv] at e
              have := (hlt5 g e.symm).1
              have := (ltS hgg)
              omega
          have R3 : w3.ownsRow w.heap.size 9 1 v' (acc ++ [x]).length ((acc ++ [x]).flatMap stC) := by
            rw [List.length_append, List.flatMap_append]
            have e1 : [x].flatMap stC = stC x := by simp
            rw [e1]; exact hown'
          have hat3 := sc3.at
          clear hown' hgrow hown2 hlt5 sc1 sc gc hg
          go_wp2
          go_roundw
          case rel => exact ⟨acc ++ [x], j2, f', R3, hg3, sc3, by omega, by simp; omega, HE3⟩
          case measure => rw [hat3, hat]; omega
      · simp only [hc, if_false, decide_false] at hmay
        have HE2 : Hid (listP T (nameP T) i = .ok acc j) := by
          show _ = _
          rw [HE.out]
          cases f with
          | zero => rfl
          | succ f => rw [listGo, if_neg hc]
        clear HE hc
        have hgb := fun (wb : World) (gb : wr.grownBy wb (some pb)) => hown.kept gb (by
          rcases hown.2 with ⟨hv, -⟩ | ⟨g, cap, cur, hv, hb, -⟩
          · rw [hv]; exact .inl rfl
          · rw [hv]; right; simp only [Value.ownBlock, ne_eq, Option.some.injEq]; omega)
        obtain ⟨ao, cap, hv⟩ := owns_slice hown
        subst hv
        clear hown
        go_wp2_with (go_at_call 141; refine hmay.mono ?_; rintro e wb ⟨rfl, gb, sb⟩)
        go_ret
        exact .mkOk (grown_trans hg gb) HE2.out (hgb _ gb) sb
def repR {α : Type} (cf : α → List Value) (B : Nat) (w' : World) (u : Value) (l : List α) : Prop := RowAt B w' u l.length (l.flatMap cf)
theorem inBr_col {w : World} {base pb : Nat} {v : Value} {T : List Tk} {en : Int} {i : Nat} (h : St w base pb v T en i) :
    Calls Tryz.prog 143 #[.pointer (some ⟨pb, 0, none⟩), .func (.func 144) #[.pointer (some ⟨pb, 0, none⟩)] #[]] w fun e w' =>
      Out w base pb v T en (repR clC w.heap.size) (inBrP T (columnP T) i) e w' := by
  go_enter Tryz.func143, Tryz.ntmps143
  go_wp2_with fail
  refine (must_new h [[40]] 1 _ (by simp) _ (by rfl) (by rfl) (by decide) (by decide)).mono ?_
  intro e wa oa
  have ga := oa.grown
  cases hy : must T [[40]] i with
  | bad j =>
    obtain rfl := oa.bad j hy
    exact ⟨rfl, .mkBad ga (by rw [inBrP, hy]; rfl)⟩
  | ok x j =>
    obtain ⟨u, rfl, hu, sa⟩ := oa.ok x j hy
    have H1 : Hid (inBrP T (columnP T) i = (listP T (columnP T) j).then fun l j => (must T [[41]] j).then fun _ j => .ok l j) := by show _ = _; rw [inBrP, hy]; rfl
    clear hy oa
    go_wp2_with fail
    refine (list_col sa).mono ?_
    intro e wb ob
    have gb := grown_trans ga ob.grown
    cases hz : listP T (columnP T) j with
    | bad j2 =>
      obtain rfl := ob.bad j2 hz
      exact ⟨rfl, .mkBad gb (by rw [H1.out, hz]; rfl)⟩
    | ok l j2 =>
      obtain ⟨u, rfl, hr, sb⟩ := ob.ok l j2 hz
      have hr := row_of hr
      obtain ⟨ao, cap, rfl⟩ := hr.form
      have H2 : Hid (inBrP T (columnP T) i = (must T [[41]] j2).then fun _ j => .ok l j) := by show _ = _; rw [H1.out, hz]; rfl
      have hpa := sa.heapLt
      clear hz ob sa H1
      go_wp2_with fail
      refine (must_new sb [[41]] 1 _ (by simp) _ (by rfl) (by rfl) (by decide) (by decide)).mono ?_
      intro e wc oc
      have gc := grown_trans gb oc.grown
      have hr2 := (hr.grown hpa oc.grown).weak ga.size
      cases hw : must T [[41]] j2 with
      | bad j3 =>
        obtain rfl := oc.bad j3 hw
        exact ⟨rfl, .mkBad gc (by rw [H2.out, hw]; rfl)⟩
      | ok x3 j3 =>
        obtain ⟨u, rfl, hu, sc⟩ := oc.ok x3 j3 hw
        have H3 : Hid (inBrP T (columnP T) i = .ok l j3) := by show _ = _; rw [H2.out, hw]; rfl
        clear hw oc sb H2 hr
        go_wp2_with fail
        go_ret
        exact .mkOk gc H3.out hr2 sc
theorem inBr_val {w : World} {base pb : Nat} {v : Value} {T : List Tk} {en : Int} {i : Nat} (h : St w base pb v T en i) :
    Calls Tryz.prog 148 #[.pointer (some ⟨pb, 0, none⟩), .func (.func 146) #[.pointer (some ⟨pb, 0, none⟩)] #[]] w fun e w' =>
      Out w base pb v T en (repR vlC w.heap.size) (inBrP T (valueP T) i) e w' := by
  go_enter Tryz.func148, Tryz.ntmps148
  go_wp2_with fail
  refine (must_new h [[40]] 1 _ (by simp) _ (by rfl) (by rfl) (by decide) (by decide)).mono ?_
  intro e wa oa
  have ga := oa.grown
  cases hy : must T [[40]] i with
  | bad j =>
    obtain rfl := oa.bad j hy
    exact ⟨rfl, .mkBad ga (by rw [inBrP, hy]; rfl)⟩
  | ok x j =>
    obtain ⟨u, rfl, hu, sa⟩ := oa.ok x j hy
    have H1 : Hid (inBrP T (valueP T) i = (listP T (valueP T) j).then fun l j => (must T [[41]] j).then fun _ j => .ok l j) := by show _ = _; rw [inBrP, hy]; rfl
    clear hy oa
    go_wp2_with fail
    refine (list_val sa).mono ?_
    intro e wb ob
    have gb := grown_trans ga ob.grown
    cases hz : listP T (valueP T) j with
    | bad j2 =>
      obtain rfl := ob.bad j2 hz
      exact ⟨rfl, .mkBad gb (by rw [H1.out, hz]; rfl)⟩
    | ok l j2 =>
      obtain ⟨u, rfl, hr, sb⟩ := ob.ok l j2 hz
      have hr := row_of hr
      obtain ⟨ao, cap, rfl⟩ := hr.form
      have H2 : Hid (inBrP T (valueP T) i = (must T [[41]] j2).then fun _ j => .ok l j) := by show _ = _; rw [H1.out, hz]; rfl
      have hpa := sa.heapLt
      clear hz ob sa H1
      go_wp2_with fail
      refine (must_new sb [[41]] 1 _ (by simp) _ (by rfl) (by rfl) (by decide) (by decide)).mono ?_
      intro e wc oc
      have gc := grown_trans gb oc.grown
      have hr2 := (hr.grown hpa oc.grown).weak ga.size
      cases hw : must T [[41]] j2 with
      | bad j3 =>
        obtain rfl := oc.bad j3 hw
        exact ⟨rfl, .mkBad gc (by rw [H2.out, hw]; rfl)⟩
      | ok x3 j3 =>
        obtain ⟨u, rfl, hu, sc⟩ := oc.ok x3 j3 hw
        have H3 : Hid (inBrP T (valueP T) i = .ok l j3) := by show _ = _; rw [H2.out, hw]; rfl
        clear hw oc sb H2 hr
        go_wp2_with fail
        go_ret
        exact .mkOk gc H3.out hr2 sc
def putAll (W : World) (b : Nat) : Nat → List Value → World
  | _, [] => W
  | o, x :: xs => putAll (W.setCell ⟨b, o, none⟩ x) b (o + 1) xs
theorem putAll_size (b : Nat) : ∀ (xs : List Value) (W : World) (o : Nat), (putAll W b o xs).heap.size = W.heap.size := by
  intro xs
  induction xs with
  | nil => intro W o; rfl
  | cons x xs ih => intro W o; rw [putAll, ih]; simp [World.setCell]
theorem putAll_other (b : Nat) : ∀ (xs : List Value) (W : World) (o k : Nat), k ≠ b → (putAll W b o xs).heap[k]? = W.heap[k]? := by
  intro xs
  induction xs with
  | nil => intro W o k _; rfl
  | cons x xs ih => intro W o k hk; rw [putAll, ih _ _ _ hk]; exact heap_setCell_other W ⟨b, o, none⟩ k x hk
theorem putAll_misc (b : Nat) : ∀ (xs : List Value) (W : World) (o : Nat), (putAll W b o xs).os = W.os ∧ (putAll W b o xs).tape = W.tape ∧ (putAll W b o xs).output = W.output := by
  intro xs
  induction xs with
  | nil => intro W o; exact ⟨rfl, rfl, rfl⟩
  | cons x xs ih => intro W o; rw [putAll]; exact ih _ _
theorem putAll_grown (b : Nat) (xs : List Value) (W : World) (o : Nat) : W.grownBy (putAll W b o xs) (some b) :=
  ⟨(putAll_misc b xs W o).1, (putAll_misc b xs W o).2.1, (putAll_misc b xs W o).2.2, Nat.le_of_eq (putAll_size b xs W o).symm, fun k _ hk => putAll_other b xs W o k (by intro e; exact hk (by rw [e]))⟩
theorem putAll_go (b : Nat) (t : TypeId) : ∀ (xs : List Value) (W : World) (pre post : List Value), post.length = xs.length → W.heap[b]? = some (.cells (pre ++ post).toArray t) →
    (putAll W b pre.length xs).heap[b]? = some (.cells (pre ++ xs).toArray t) := by
  intro xs
  induction xs with
  | nil => intro W pre post hl h; cases post with
    | nil => exact h
    | cons _ _ => cases hl
  | cons x xs ih =>
    intro W pre post hl h
    cases post with
    | nil => cases hl
    | cons y post =>
      have h1 := heap_setCell_same W b pre.length _ t x h
      have e : (pre ++ y :: post).toArray.setIfInBounds pre.length x = ((pre ++ [x]) ++ post).toArray := by simp
      rw [e] at h1
      have := ih (W.setCell ⟨b, pre.length, none⟩ x) (pre ++ [x]) post (by simpa using hl) h1
      rw [putAll]
      simpa using this
theorem putAll_same {b : Nat} {t : TypeId} {W : World} {cs : List Value} (h : W.heap[b]? = some (.cells cs.toArray t)) (xs : List Value) (hl : cs.length = xs.length) : (putAll W b 0 xs).heap[b]? = some (.cells xs.toArray t) :=
  putAll_go b t xs W [] cs hl h
theorem St.putAll {w : World} {base pb : Nat} {v : Value} {T : List Tk} {en : Int} {i : Nat} (h : St w base pb v T en i) {b : Nat} (hb : b ≠ pb ∧ v.ownBlock ≠ some b ∧ 6 ≤ b) (o : Nat) (xs : List Value) : St (putAll w b o xs) base pb v T en i :=
  ⟨(putAll_other b xs w o pb (Ne.symm hb.1)).trans h.blk, h.own.kept (putAll_grown b xs w o) (.inr hb.2.1), h.ne, h.le, h.few, h.six, h.gl.grown hb.2.2 (putAll_grown b xs w o), h.toks⟩
theorem grown_putAll {w w' : World} {r : Option Nat} (h : w.grownBy w' r) {b : Nat} (hb : w.heap.size ≤ b) (o : Nat) (xs : List Value) : w.grownBy (putAll w' b o xs) r :=
  ⟨(putAll_misc b xs w' o).1.trans h.os, (putAll_misc b xs w' o).2.1.trans h.tape, (putAll_misc b xs w' o).2.2.trans h.output, Nat.le_trans h.size (Nat.le_of_eq (putAll_size b xs w' o).symm),
    fun k hk hr => (putAll_other b xs w' o k (by omega)).trans (h.block k hk hr)⟩
theorem RowAt.putAll {B : Nat} {w : World} {u : Value} {n : Nat} {xs : List Value} (h : RowAt B w u n xs) {b : Nat} (hb : b < B) (o : Nat) (ys : List Value) : RowAt B (putAll w b o ys) u n xs :=
  h.keep (Nat.le_of_eq (putAll_size b ys w o).symm) fun c hc _ => putAll_other b ys w o c (by omega)
theorem ExAt.putAll {B : Nat} {w : World} {u : Value} {x : Ex} (h : ExAt B w u x) {b : Nat} (hb : b < B) (o : Nat) (ys : List Value) : ExAt B (putAll w b o ys) u x :=
  h.keep (Nat.le_of_eq (putAll_size b ys w o).symm) fun c hc _ => putAll_other b ys w o c (by omega)
def Ex.k : Ex → Int | .mk k _ _ _ => k
def Ex.v : Ex → Vl | .mk _ v _ _ => v
def Ex.nm : Ex → List UInt8 | .mk _ _ n _ => n
def cmL (c : Cm) (cv vv fv ea wa : Value) : List Value :=
  [.int .i64 c.kind, .string ⟨c.name.toArray⟩, .string ⟨c.other.toArray⟩, .string ⟨c.column.toArray⟩, cv, .int .i64 c.ty, .int .i64 c.val.k, .int .i64 c.val.n, .string ⟨c.val.s.toArray⟩, vv, fv,
   .int .i64 c.expr.k, .int .i64 c.expr.v.k, .int .i64 c.expr.v.n, .string ⟨c.expr.v.s.toArray⟩, .string ⟨c.expr.nm.toArray⟩, ea, .bool c.all,
   .int .i64 c.wh.k, .int .i64 c.wh.v.k, .int .i64 c.wh.v.n, .string ⟨c.wh.v.s.toArray⟩, .string ⟨c.wh.nm.toArray⟩, wa, .string ⟨c.order.toArray⟩, .int .i64 c.limit]
structure CmIn (B : Nat) (w : World) (c : Cm) (cv vv fv ea wa : Value) : Prop where
  cols : RowAt B w cv c.cols.length (c.cols.flatMap clC)
  vals : RowAt B w vv c.vals.length (c.vals.flatMap vlC)
  fields : RowAt B w fv c.fields.length (c.fields.flatMap stC)
  expr : ExAt B w (exV c.expr.k c.expr.v c.expr.nm ea) c.expr
  wh : ExAt B w (exV c.wh.k c.wh.v c.wh.nm wa) c.wh
theorem CmIn.keep {B : Nat} {w w' : World} {c : Cm} {cv vv fv ea wa : Value} (h : CmIn B w c cv vv fv ea wa) (hs : w.heap.size ≤ w'.heap.size) (hk : ∀ b, B ≤ b → b < w.heap.size → w'.heap[b]? = w.heap[b]?) : CmIn B w' c cv vv fv ea wa :=
  ⟨h.cols.keep hs hk, h.vals.keep hs hk, h.fields.keep hs hk, h.expr.keep hs hk, h.wh.keep hs hk⟩
theorem CmIn.grown {B pb : Nat} {w w' : World} {c : Cm} {cv vv fv ea wa : Value} (h : CmIn B w c cv vv fv ea wa) (hp : pb < B) (hg : w.grownBy w' (some pb)) : CmIn B w' c cv vv fv ea wa :=
  h.keep hg.size fun b hB hs => hg.block b hs (by simp only [ne_eq, Option.some.injEq]; omega)
theorem CmIn.put {B : Nat} {w : World} {c : Cm} {cv vv fv ea wa : Value} (h : CmIn B w c cv vv fv ea wa) {b : Nat} (hb : b < B) (o : Nat) (y : Value) : CmIn B (w.setCell ⟨b, o, none⟩ y) c cv vv fv ea wa :=
  h.keep (by simp [World.setCell]) fun c hc _ => heap_setCell_other w _ c y (by simp only; omega)
theorem CmIn.alloc {B : Nat} {w : World} {c : Cm} {cv vv fv ea wa : Value} (h : CmIn B w c cv vv fv ea wa) (o : Obj) : CmIn B (w.alloc o) c cv vv fv ea wa :=
  h.keep (by simp) fun b _ hs => ((Below.refl w.heap.size w).alloc (Nat.le_refl _) o).block b hs
theorem CmIn.under {B : Nat} {w w' : World} {c : Cm} {cv vv fv ea wa : Value} (h : CmIn B w c cv vv fv ea wa) (hb : Below w.heap.size w w') : CmIn B w' c cv vv fv ea wa :=
  h.keep hb.size fun b _ hs => hb.block b hs
theorem CmIn.putAll {B : Nat} {w : World} {c : Cm} {cv vv fv ea wa : Value} (h : CmIn B w c cv vv fv ea wa) {b : Nat} (hb : b < B) (o : Nat) (ys : List Value) : CmIn B (putAll w b o ys) c cv vv fv ea wa :=
  h.keep (Nat.le_of_eq (putAll_size b ys w o).symm) fun c hc _ => putAll_other b ys w o c (by omega)
theorem CmIn.weak {B B' : Nat} {w : World} {c : Cm} {cv vv fv ea wa : Value} (h : CmIn B w c cv vv fv ea wa) (hB : B' ≤ B) : CmIn B' w c cv vv fv ea wa :=
  ⟨h.cols.weak hB, h.vals.weak hB, h.fields.weak hB, h.expr.weak hB, h.wh.weak hB⟩
def CmAt (B : Nat) (w : World) (u : Value) (c : Cm) : Prop :=
  ∃ cv vv fv ea wa, u = .agg (cmL c cv vv fv ea wa).toArray ∧ CmIn B w c cv vv fv ea wa
def repM (B : Nat) (w : World) (u : Value) (c : Cm) : Prop := CmAt B w u c
end Go.Proofs.YtkpeklealgicpabGreatDoor
