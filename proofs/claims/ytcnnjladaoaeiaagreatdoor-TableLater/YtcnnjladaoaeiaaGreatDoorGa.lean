/-
  The small predicates of package token and the walk over bytes 'span', at every input: each answers its plain function and leaves the world as it was.
  'span' of package token, at every text, place within it and each of the four function values that the program hands it: it answers the place where the bytes end of which it goes on, and leaves the world as it was.
  The contracts of the library functions that this program calls, stated at its own numbers.
  'next' of package token.
  'longest' and 'fault' of package token.
  The plain function that scanning comes to, over lists of bytes, and its small laws; what 'fault' answers, in its words.
  'Scan' of package token.
-/
import Derived.Test.YtcnnjladaoaeiaaGreatDoorRows
import Derived.WalkKit
import Derived.WalkSpells
import Derived.WalkLawsBesides
import Derived.Shelf.Strings.Builder1
import Derived.Shelf.Strings.Builder2
import Derived.Shelf.Small.Bits
import Derived.Shelf.Small.Strs
import Derived.Shelf.Small.Wraps
import Derived.Shelf.Strings.BuilderF
import Derived.Shelf.Strings.BuilderK
import Derived.Shelf.Strings.Builder2Cap
import Derived.Shelf.Strconv.Atoi
import Derived.Shelf.Strconv.Itoa0
import Derived.Shelf.Strconv.Itoa1
import Derived.Shelf.LaysM
import Derived.Shelf.Strconv.Itoa2
import Derived.Shelf.Strconv.Itoa3
import Derived.Shelf.Strconv.AtoiErrFast
import Derived.Shelf.Strconv.ParseIntEmpty
import Derived.Shelf.Strconv.AtoiFail
import Derived.Shelf.Strconv.Clone
import Derived.Shelf.Strconv.SyntaxError
import Derived.Shelf.LaysC
import Derived.Shelf.Strconv.ToError
import Derived.Shelf.Strconv.AtoiErr
import Derived.Shelf.Strconv.ErrVar
import Derived.Shelf.Strconv.Lower
import Derived.Shelf.Strconv.ParseUint10
import Derived.Shelf.Strconv.ParseUint10Empty
import Derived.Shelf.Strconv.ParseUint10Any
import Derived.Shelf.Strconv.ParseInt10
import Derived.Shelf.Strconv.AtoiLong
import Derived.Shelf.Strconv.AtoiInnerAll
import Derived.Shelf.Strconv.RangeError
import Derived.Shelf.Strconv.ToErrorRange
import Derived.Shelf.Strconv.AtoiAll
import Derived.Shelf.Strconv.ErrVarAll
import Derived.Shelf.Strconv.ParseUintEmpty
import Derived.Shelf.Strconv.ParseUint10b64
import Derived.Shelf.Strconv.ParseUint10b32
import Derived.Shelf.Strconv.ParseUint10b16
import Derived.Shelf.Strconv.ParseUint10b8
import Derived.Shelf.Strconv.ParseUint10At
import Derived.Shelf.Strconv.ParseInt10At64
import Derived.Shelf.Strconv.ParseInt10At32
import Derived.Shelf.Strconv.ParseInt10At16
import Derived.Shelf.Strconv.ParseInt10At8
import Derived.Shelf.Strconv.ParseInt10All
import Derived.Shelf.Strings.Search1
import Derived.Shelf.Strings.Search2
import Derived.Shelf.Strings.Search3
import Derived.Shelf.Strings.Shaped
import Derived.Shelf.Strings.Prefix
import Derived.Shelf.Bits.Mul64
import Derived.Shelf.Strings.Repeat
import Derived.Shelf.Strings.BuilderCap
import Derived.Shelf.Slices.Turned
import Derived.Ground.Names2Prog
import Derived.Shelf.Slices.SearchI
import Derived.Test.YtcnnjladaoaeiaaGreatDoorProg
import Derived.Deep.QuietTactic
import Derived.BigQuiet

set_option maxRecDepth 100000
set_option maxHeartbeats 25600000
namespace Go.Proofs.YtcnnjladaoaeiaaGreatDoor
open Go.RowKit
theorem ltS {α : Type} {xs : Array α} {i : Nat} {a : α} (h : xs[i]? = some a) : i < xs.size := (Array.getElem?_eq_some_iff.1 h).1
def isL (c : UInt8) : Bool := decide ((97 : Int) ≤ (c.toNat : Int)) && decide ((c.toNat : Int) ≤ 122)
def isD (c : UInt8) : Bool := decide ((48 : Int) ≤ (c.toNat : Int)) && decide ((c.toNat : Int) ≤ 57)
def isW (c : UInt8) : Bool := isL c || isD c
def isQ (c : UInt8) : Bool := decide ((32 : Int) ≤ (c.toNat : Int)) && decide ((c.toNat : Int) ≤ 126) && ((c.toNat : Int) != 39)
def isB (c : UInt8) : Bool := ((c.toNat : Int) == 32) || ((c.toNat : Int) == 9) || ((c.toNat : Int) == 10)
theorem ret_bool {a b : Bool} (h : a = b) : Ending.returned (.bool a) = .returned (.bool b) := by rw [h]
theorem ret_int {k : IntKind} {a b : Int} (h : a = b) : Ending.returned (.int k a) = .returned (.int k b) := by rw [h]
theorem letter_any (c : UInt8) (w : World) :
    Calls Tryz.prog 212 #[.int .u8 (c.toNat : Int)] w fun e w' => e = .returned (.bool (isL c)) ∧ w' = w := by
  go_enter Tryz.func212, Tryz.ntmps212
  go_wp2
  all_goals go_ret
  all_goals exact ⟨ret_bool (by simp [isL, *] <;> omega), rfl⟩
theorem digit_any (c : UInt8) (w : World) :
    Calls Tryz.prog 214 #[.int .u8 (c.toNat : Int)] w fun e w' => e = .returned (.bool (isD c)) ∧ w' = w := by
  go_enter Tryz.func214, Tryz.ntmps214
  go_wp2
  all_goals go_ret
  all_goals exact ⟨ret_bool (by simp [isD, *] <;> omega), rfl⟩
theorem parts_any (c : UInt8) (w : World) :
    Calls Tryz.prog 193 #[.int .u8 (c.toNat : Int)] w fun e w' => e = .returned (.bool (isB c)) ∧ w' = w := by
  go_enter Tryz.func193, Tryz.ntmps193
  go_wp2
  all_goals go_ret
  all_goals exact ⟨ret_bool (by simp [isB, *]), rfl⟩
theorem word_any (c : UInt8) (w : World) :
    Calls Tryz.prog 213 #[.int .u8 (c.toNat : Int)] w fun e w' => e = .returned (.bool (isW c)) ∧ w' = w := by
  cases hL : isL c
  · have HL : Hid (isL c = false) := hL
    have h1 := letter_any c
    rw [hL] at h1
    clear hL
    go_enter Tryz.func213, Tryz.ntmps213
    go_wp2_with (first | (go_at_call 212; refine (h1 _).mono ?_; rintro e w' ⟨rfl, rfl⟩) | (go_at_call 214; refine (digit_any _ _).mono ?_; rintro e w' ⟨rfl, rfl⟩))
    go_ret
    exact ⟨ret_bool (by simp [isW, HL.out]), rfl⟩
  · have HL : Hid (isL c = true) := hL
    have h1 := letter_any c
    rw [hL] at h1
    clear hL
    go_enter Tryz.func213, Tryz.ntmps213
    go_wp2_with (first | (go_at_call 212; refine (h1 _).mono ?_; rintro e w' ⟨rfl, rfl⟩) | (go_at_call 214; refine (digit_any _ _).mono ?_; rintro e w' ⟨rfl, rfl⟩))
    go_ret
    exact ⟨ret_bool (by simp [isW, HL.out]), rfl⟩
theorem quot_any (c : UInt8) (w : World) :
    Calls Tryz.prog 215 #[.int .u8 (c.toNat : Int)] w fun e w' => e = .returned (.bool (isQ c)) ∧ w' = w := by
  go_enter Tryz.func215, Tryz.ntmps215
  go_wp2
  all_goals go_ret
  all_goals exact ⟨ret_bool (by simp [isQ, *] <;> omega), rfl⟩
def runL (p : UInt8 → Bool) (l : List UInt8) : Nat := (l.takeWhile p).length
theorem runL_le (p : UInt8 → Bool) (l : List UInt8) : runL p l ≤ l.length := by
  unfold runL; exact (List.takeWhile_sublist p).length_le
theorem runL_cons (p : UInt8 → Bool) (c : UInt8) (l : List UInt8) : runL p (c :: l) = if p c = true then runL p l + 1 else 0 := by
  unfold runL; rw [List.takeWhile_cons]; split <;> simp
def spanE (p : UInt8 → Bool) (s : ByteArray) (a : Nat) : Nat := a + runL p (s.data.toList.drop a)
theorem drop_at (s : ByteArray) (k : Nat) (h : k < s.size) : s.data.toList.drop k = s[k] :: s.data.toList.drop (k + 1) := by
  rw [List.drop_eq_getElem_cons (by simpa using h)]; rfl
theorem spanE_yes (p : UInt8 → Bool) (s : ByteArray) (k : Nat) (h : k < s.size) (hp : p s[k] = true) : spanE p s k = spanE p s (k + 1) := by
  unfold spanE; rw [drop_at s k h, runL_cons, if_pos hp]; omega
theorem spanE_no (p : UInt8 → Bool) (s : ByteArray) (k : Nat) (h : k < s.size) (hp : p s[k] = false) : spanE p s k = k := by
  unfold spanE; rw [drop_at s k h, runL_cons, if_neg (by simp [hp])]; omega
theorem spanE_end (p : UInt8 → Bool) (s : ByteArray) (k : Nat) (h : ¬ k < s.size) : spanE p s k = k := by
  unfold spanE; rw [List.drop_eq_nil_of_le (by simp; omega)]; simp [runL]
theorem spanE_ge (p : UInt8 → Bool) (s : ByteArray) (k : Nat) : k ≤ spanE p s k := by unfold spanE; omega
theorem spanE_le (p : UInt8 → Bool) (s : ByteArray) (k : Nat) (h : k ≤ s.size) : spanE p s k ≤ s.size := by
  unfold spanE; have := runL_le p (s.data.toList.drop k); simp at this; omega
theorem span_parts (s : ByteArray) (a : Nat) (w : World) (hs : s.size ≤ 9223372036854775000) (ha : a ≤ s.size) :
    Calls Tryz.prog 192 #[.string s, .int .i64 (a : Int), .func (.func 193) #[] #[]] w fun e w' => e = .returned (.int .i64 (spanE isB s a : Nat)) ∧ w' = w := by
  go_enter Tryz.func192, Tryz.ntmps192
  go_wp2
  go_loop [1] (fun i => ∃ k : Nat, k ≤ s.size ∧ i = .int .i64 k ∧ Hid (spanE isB s k = spanE isB s a)) (fun i => s.size - (intOf i).toNat)
  case atStart => exact ⟨a, ha, rfl, rfl⟩
  case round =>
    obtain ⟨k, hk, rfl, hE⟩ := hrel
    by_cases hlt : k < s.size
    · cases hp : isB s[k]
      · have hend := spanE_no isB s k hlt hp
        have h1 := parts_any s[k]
        rw [hp] at h1
        rw [hE.out] at hend
        have HE : Hid (spanE isB s a = k) := hend
        clear hend hE hp
        go_wp2_with (go_at_call 193; refine (h1 _).mono ?_; rintro e w' ⟨rfl, rfl⟩)
        go_ret
        exact ⟨ret_int (by rw [HE.out]), rfl⟩
      · have hend := spanE_yes isB s k hlt hp
        have h1 := parts_any s[k]
        rw [hp] at h1
        rw [hE.out] at hend
        have HE : Hid (spanE isB s (k + 1) = spanE isB s a) := hend.symm
        clear hend hE hp
        go_wp2_with (go_at_call 193; refine (h1 _).mono ?_; rintro e w' ⟨rfl, rfl⟩)
        go_round
        case rel => exact ⟨k + 1, by omega, by go_num, HE⟩
        case measure => simp [intOf]; omega
    · have hend := spanE_end isB s k hlt
      rw [hE.out] at hend
      have HE : Hid (spanE isB s a = k) := hend
      clear hend hE
      go_wp2
      go_ret
      exact ⟨ret_int (by rw [HE.out]), rfl⟩
theorem span_word (s : ByteArray) (a : Nat) (w : World) (hs : s.size ≤ 9223372036854775000) (ha : a ≤ s.size) :
    Calls Tryz.prog 192 #[.string s, .int .i64 (a : Int), .func (.func 213) #[] #[]] w fun e w' => e = .returned (.int .i64 (spanE isW s a : Nat)) ∧ w' = w := by
  go_enter Tryz.func192, Tryz.ntmps192
  go_wp2
  go_loop [1] (fun i => ∃ k : Nat, k ≤ s.size ∧ i = .int .i64 k ∧ Hid (spanE isW s k = spanE isW s a)) (fun i => s.size - (intOf i).toNat)
  case atStart => exact ⟨a, ha, rfl, rfl⟩
  case round =>
    obtain ⟨k, hk, rfl, hE⟩ := hrel
    by_cases hlt : k < s.size
    · cases hp : isW s[k]
      · have hend := spanE_no isW s k hlt hp
        have h1 := word_any s[k]
        rw [hp] at h1
        rw [hE.out] at hend
        have HE : Hid (spanE isW s a = k) := hend
        clear hend hE hp
        go_wp2_with (go_at_call 213; refine (h1 _).mono ?_; rintro e w' ⟨rfl, rfl⟩)
        go_ret
        exact ⟨ret_int (by rw [HE.out]), rfl⟩
      · have hend := spanE_yes isW s k hlt hp
        have h1 := word_any s[k]
        rw [hp] at h1
        rw [hE.out] at hend
        have HE : Hid (spanE isW s (k + 1) = spanE isW s a) := hend.symm
        clear hend hE hp
        go_wp2_with (go_at_call 213; refine (h1 _).mono ?_; rintro e w' ⟨rfl, rfl⟩)
        go_round
        case rel => exact ⟨k + 1, by omega, by go_num, HE⟩
        case measure => simp [intOf]; omega
    · have hend := spanE_end isW s k hlt
      rw [hE.out] at hend
      have HE : Hid (spanE isW s a = k) := hend
      clear hend hE
      go_wp2
      go_ret
      exact ⟨ret_int (by rw [HE.out]), rfl⟩
theorem span_digit (s : ByteArray) (a : Nat) (w : World) (hs : s.size ≤ 9223372036854775000) (ha : a ≤ s.size) :
    Calls Tryz.prog 192 #[.string s, .int .i64 (a : Int), .func (.func 214) #[] #[]] w fun e w' => e = .returned (.int .i64 (spanE isD s a : Nat)) ∧ w' = w := by
  go_enter Tryz.func192, Tryz.ntmps192
  go_wp2
  go_loop [1] (fun i => ∃ k : Nat, k ≤ s.size ∧ i = .int .i64 k ∧ Hid (spanE isD s k = spanE isD s a)) (fun i => s.size - (intOf i).toNat)
  case atStart => exact ⟨a, ha, rfl, rfl⟩
  case round =>
    obtain ⟨k, hk, rfl, hE⟩ := hrel
    by_cases hlt : k < s.size
    · cases hp : isD s[k]
      · have hend := spanE_no isD s k hlt hp
        have h1 := digit_any s[k]
        rw [hp] at h1
        rw [hE.out] at hend
        have HE : Hid (spanE isD s a = k) := hend
        clear hend hE hp
        go_wp2_with (go_at_call 214; refine (h1 _).mono ?_; rintro e w' ⟨rfl, rfl⟩)
        go_ret
        exact ⟨ret_int (by rw [HE.out]), rfl⟩
      · have hend := spanE_yes isD s k hlt hp
        have h1 := digit_any s[k]
        rw [hp] at h1
        rw [hE.out] at hend
        have HE : Hid (spanE isD s (k + 1) = spanE isD s a) := hend.symm
        clear hend hE hp
        go_wp2_with (go_at_call 214; refine (h1 _).mono ?_; rintro e w' ⟨rfl, rfl⟩)
        go_round
        case rel => exact ⟨k + 1, by omega, by go_num, HE⟩
        case measure => simp [intOf]; omega
    · have hend := spanE_end isD s k hlt
      rw [hE.out] at hend
      have HE : Hid (spanE isD s a = k) := hend
      clear hend hE
      go_wp2
      go_ret
      exact ⟨ret_int (by rw [HE.out]), rfl⟩
theorem span_quot (s : ByteArray) (a : Nat) (w : World) (hs : s.size ≤ 9223372036854775000) (ha : a ≤ s.size) :
    Calls Tryz.prog 192 #[.string s, .int .i64 (a : Int), .func (.func 215) #[] #[]] w fun e w' => e = .returned (.int .i64 (spanE isQ s a : Nat)) ∧ w' = w := by
  go_enter Tryz.func192, Tryz.ntmps192
  go_wp2
  go_loop [1] (fun i => ∃ k : Nat, k ≤ s.size ∧ i = .int .i64 k ∧ Hid (spanE isQ s k = spanE isQ s a)) (fun i => s.size - (intOf i).toNat)
  case atStart => exact ⟨a, ha, rfl, rfl⟩
  case round =>
    obtain ⟨k, hk, rfl, hE⟩ := hrel
    by_cases hlt : k < s.size
    · cases hp : isQ s[k]
      · have hend := spanE_no isQ s k hlt hp
        have h1 := quot_any s[k]
        rw [hp] at h1
        rw [hE.out] at hend
        have HE : Hid (spanE isQ s a = k) := hend
        clear hend hE hp
        go_wp2_with (go_at_call 215; refine (h1 _).mono ?_; rintro e w' ⟨rfl, rfl⟩)
        go_ret
        exact ⟨ret_int (by rw [HE.out]), rfl⟩
      · have hend := spanE_yes isQ s k hlt hp
        have h1 := quot_any s[k]
        rw [hp] at h1
        rw [hE.out] at hend
        have HE : Hid (spanE isQ s (k + 1) = spanE isQ s a) := hend.symm
        clear hend hE hp
        go_wp2_with (go_at_call 215; refine (h1 _).mono ?_; rintro e w' ⟨rfl, rfl⟩)
        go_round
        case rel => exact ⟨k + 1, by omega, by go_num, HE⟩
        case measure => simp [intOf]; omega
    · have hend := spanE_end isQ s k hlt
      rw [hE.out] at hend
      have HE : Hid (spanE isQ s a = k) := hend
      clear hend hE
      go_wp2
      go_ret
      exact ⟨ret_int (by rw [HE.out]), rfl⟩
end Go.Proofs.YtcnnjladaoaeiaaGreatDoor
namespace Go.Proofs
open Go.Shelf
def Tryz.lays170_ren : Go.Shelf.Ren := ⟨fun | 170 => 160 | n => n, fun | 70 => 182 | 3 => 3 | 0 => 0 | 72 => 184 | 37 => 134 | 5 => 5 | n => n, fun | n => n⟩
theorem Tryz.lays170 : Go.Proofs.Lays.n170 Tryz.prog Tryz.lays170_ren := {
  mixed := by kernel_rfl
  f170 := Tryz.func160.trans (congrArg some (by kernel_rfl))
  t0 := Tryz.underlying0
  a0 := Tryz.isAgg0
  z0 := Tryz.sizeOf0
  v0 := Tryz.zeroValue0
  t3 := Tryz.underlying3
  a3 := Tryz.isAgg3
  z3 := Tryz.sizeOf3
  v3 := Tryz.zeroValue3
  t37 := Tryz.underlying134
  a37 := Tryz.isAgg134
  z37 := Tryz.sizeOf134
  v37 := Tryz.zeroValue134
  t70 := Tryz.underlying182
  a70 := Tryz.isAgg182
  z70 := Tryz.sizeOf182
  v70 := Tryz.zeroValue182
  t72 := Tryz.underlying184
  a72 := Tryz.isAgg184
  z72 := Tryz.sizeOf184
  v72 := Tryz.zeroValue184 }
open Go.RowKit in
theorem Tryz.Builder_Len (B b : Nat) (bs : List Value) (w : World) (h : Lib.IsBuilder 184 5 B b bs w) :
    Calls Tryz.prog 160 #[.pointer (some ⟨b, 0, none⟩)] w fun e w' => e = .returned (.int .i64 bs.length) ∧ w' = w := Any.Builder_Len Tryz.lays170 B b bs w h
def Tryz.lays169_ren : Go.Shelf.Ren := ⟨fun | 169 => 161 | n => n, fun | 70 => 182 | 9 => 9 | 0 => 0 | 72 => 184 | 37 => 134 | 127 => 202 | 3 => 3 | 5 => 5 | n => n, fun | n => n⟩
theorem Tryz.lays169 : Go.Proofs.Lays.n169 Tryz.prog Tryz.lays169_ren := {
  mixed := by kernel_rfl
  f169 := Tryz.func161.trans (congrArg some (by kernel_rfl))
  t0 := Tryz.underlying0
  a0 := Tryz.isAgg0
  z0 := Tryz.sizeOf0
  v0 := Tryz.zeroValue0
  t3 := Tryz.underlying3
  a3 := Tryz.isAgg3
  z3 := Tryz.sizeOf3
  v3 := Tryz.zeroValue3
  t9 := Tryz.underlying9
  a9 := Tryz.isAgg9
  z9 := Tryz.sizeOf9
  v9 := Tryz.zeroValue9
  t37 := Tryz.underlying134
  a37 := Tryz.isAgg134
  z37 := Tryz.sizeOf134
  v37 := Tryz.zeroValue134
  t70 := Tryz.underlying182
  a70 := Tryz.isAgg182
  z70 := Tryz.sizeOf182
  v70 := Tryz.zeroValue182
  t72 := Tryz.underlying184
  a72 := Tryz.isAgg184
  z72 := Tryz.sizeOf184
  v72 := Tryz.zeroValue184
  t127 := Tryz.underlying202
  a127 := Tryz.isAgg202
  z127 := Tryz.sizeOf202
  v127 := Tryz.zeroValue202 }
theorem Tryz.Builder_Extra_169 : Builder.Extra Tryz.prog Tryz.lays169_ren := {
  sizeBuilder := by kernel_rfl
  liesBuilder := by kernel_rfl
  t5 := Tryz.underlying5
  a5 := Tryz.isAgg5
  z5 := Tryz.sizeOf5
  v5 := Tryz.zeroValue5
  infoByte := by kernel_rfl
  cellsByte := by kernel_rfl
  sizeByte := by kernel_rfl
  neB5 := by decide }
open Go.RowKit in
theorem Tryz.Builder_String_any (B b : Nat) (l : List UInt8) (w : World) (h : Lib.IsBuilder 184 5 B b (Lib.byteCells l) w) (hBw : B ≤ w.heap.size) :
    Calls Tryz.prog 161 #[.pointer (some ⟨b, 0, none⟩)] w fun e w' => e = .returned (.string ⟨l.toArray⟩) ∧ Below B w w' := Any.Builder_String_any Tryz.lays169 Tryz.Builder_Extra_169 B b l w h hBw
def Tryz.lays137_ren : Go.Shelf.Ren := ⟨fun | 137 => 216 | 217 => 197 | 266 => 218 | n => n, fun | 9 => 9 | 5 => 5 | 3 => 3 | n => n, fun | n => n⟩
theorem Tryz.lays137 : Go.Proofs.Lays.n137 Tryz.prog Tryz.lays137_ren := {
  mixed := by kernel_rfl
  f137 := Tryz.func216.trans (congrArg some (by kernel_rfl))
  f217 := Tryz.func197.trans (congrArg some (by kernel_rfl))
  f266 := Tryz.func218.trans (congrArg some (by kernel_rfl))
  t3 := Tryz.underlying3
  a3 := Tryz.isAgg3
  z3 := Tryz.sizeOf3
  v3 := Tryz.zeroValue3
  t5 := Tryz.underlying5
  a5 := Tryz.isAgg5
  z5 := Tryz.sizeOf5
  v5 := Tryz.zeroValue5
  t9 := Tryz.underlying9
  a9 := Tryz.isAgg9
  z9 := Tryz.sizeOf9
  v9 := Tryz.zeroValue9 }
open Go.RowKit in
theorem Tryz.strings_IndexByte (s : ByteArray) (c : Int) (w : World) :
    Calls Tryz.prog 216 #[.string s, .int .u8 c] w fun e w' => e = .returned (.int .i64 (Lib.indexByte s.data.toList c.toNat.toUInt8)) ∧ w' = w := Any.strings_IndexByte Tryz.lays137 s c w
def Tryz.lays214_ren : Go.Shelf.Ren := ⟨fun | 214 => 191 | n => n, fun | 4 => 4 | 9 => 9 | n => n, fun | n => n⟩
def Tryz.lays121_ren : Go.Shelf.Ren := ⟨fun | 121 => 174 | 214 => 191 | n => n, fun | 4 => 4 | 9 => 9 | n => n, fun | n => n⟩
theorem Tryz.lays121 : Go.Proofs.Lays.n121 Tryz.prog Tryz.lays121_ren := {
  mixed := by kernel_rfl
  f121 := Tryz.func174.trans (congrArg some (by kernel_rfl))
  f214 := Tryz.func191.trans (congrArg some (by kernel_rfl))
  t4 := Tryz.underlying4
  a4 := Tryz.isAgg4
  z4 := Tryz.sizeOf4
  v4 := Tryz.zeroValue4
  t9 := Tryz.underlying9
  a9 := Tryz.isAgg9
  z9 := Tryz.sizeOf9
  v9 := Tryz.zeroValue9 }
open Go.RowKit in
theorem Tryz.strconv_FormatBool (b : Bool) (w : World) :
    Calls Tryz.prog 174 #[.bool b] w fun e w' => e = .returned (.string ⟨(Lib.formatBool b).toArray⟩) ∧ w' = w := Any.strconv_FormatBool Tryz.lays121 b w
def Tryz.lays215_ren : Go.Shelf.Ren := ⟨fun | 215 => 168 | n => n, fun | 3 => 3 | 4 => 4 | n => n, fun | n => n⟩
def Tryz.lays122_ren : Go.Shelf.Ren := ⟨fun | 122 => 147 | 215 => 168 | n => n, fun | 3 => 3 | 4 => 4 | n => n, fun | n => n⟩
theorem Tryz.lays122 : Go.Proofs.Lays.n122 Tryz.prog Tryz.lays122_ren := {
  mixed := by kernel_rfl
  f122 := Tryz.func147.trans (congrArg some (by kernel_rfl))
  f215 := Tryz.func168.trans (congrArg some (by kernel_rfl))
  t3 := Tryz.underlying3
  a3 := Tryz.isAgg3
  z3 := Tryz.sizeOf3
  v3 := Tryz.zeroValue3
  t4 := Tryz.underlying4
  a4 := Tryz.isAgg4
  z4 := Tryz.sizeOf4
  v4 := Tryz.zeroValue4 }
open Go.RowKit in
theorem Tryz.cmp_Compare_int (x y : Int) (w : World) :
    Calls Tryz.prog 147 #[.int .i64 x, .int .i64 y] w fun e w' => e = .returned (.int .i64 (Lib.compareInt x y)) ∧ w' = w := Any.cmp_Compare_int Tryz.lays122 x y w
def Tryz.lays172_ren : Go.Shelf.Ren := ⟨fun | 172 => 190 | 244 => 210 | 245 => 211 | 247 => 229 | 279 => 230 | 280 => 231 | 281 => 232 | 282 => 233 | 287 => 239 | 316 => 240 | 171 => 163 | 205 => 241 | 321 => 244 | 322 => 245 | 243 => 178 | 246 => 201 | 283 => 220 | 284 => 221 | 285 => 222 | 286 => 223 | 129 => 189 | 317 => 234 | 318 => 235 | 319 => 236 | 320 => 237 | 337 => 242 | 338 => 243 | n => n, fun | 9 => 9 | 3 => 3 | 75 => 187 | 76 => 189 | 4 => 4 | 5 => 5 | 167 => 242 | 37 => 134 | 0 => 0 | 85 => 243 | 2 => 2 | 168 => 245 | 53 => 214 | 175 => 251 | 46 => 176 | 210 => 255 | 127 => 202 | 145 => 260 | 143 => 258 | 21 => 21 | 171 => 233 | 173 => 235 | 212 => 248 | 51 => 212 | 20 => 20 | 213 => 249 | 232 => 261 | 233 => 262 | 80 => 192 | n => n, fun | 15 => 2 | 16 => 3 | 17 => 1 | 18 => 4 | 19 => 5 | n => n⟩
def Tryz.laysM246_ren : Go.Shelf.Ren := ⟨fun | 246 => 201 | 283 => 220 | 284 => 221 | 285 => 222 | 286 => 223 | 129 => 189 | 317 => 234 | 318 => 235 | 319 => 236 | 320 => 237 | 337 => 242 | 338 => 243 | n => n, fun | 2 => 2 | 3 => 3 | 9 => 9 | 4 => 4 | 171 => 233 | 0 => 0 | 53 => 214 | 37 => 134 | 5 => 5 | 173 => 235 | 212 => 248 | 51 => 212 | 20 => 20 | 213 => 249 | 46 => 176 | 232 => 261 | 233 => 262 | n => n, fun | 17 => 1 | 18 => 4 | 19 => 5 | n => n⟩
def Tryz.laysM243_ren : Go.Shelf.Ren := ⟨fun | 243 => 178 | 246 => 201 | 283 => 220 | 284 => 221 | 285 => 222 | 286 => 223 | 129 => 189 | 317 => 234 | 318 => 235 | 319 => 236 | 320 => 237 | 337 => 242 | 338 => 243 | n => n, fun | 3 => 3 | 9 => 9 | 2 => 2 | 4 => 4 | 171 => 233 | 0 => 0 | 53 => 214 | 37 => 134 | 5 => 5 | 173 => 235 | 212 => 248 | 51 => 212 | 20 => 20 | 213 => 249 | 46 => 176 | 232 => 261 | 233 => 262 | n => n, fun | 17 => 1 | 18 => 4 | 19 => 5 | n => n⟩
def Tryz.laysM171_ren : Go.Shelf.Ren := ⟨fun | 171 => 163 | 243 => 178 | 246 => 201 | 283 => 220 | 284 => 221 | 285 => 222 | 286 => 223 | 129 => 189 | 317 => 234 | 318 => 235 | 319 => 236 | 320 => 237 | 337 => 242 | 338 => 243 | n => n, fun | 3 => 3 | 9 => 9 | 2 => 2 | 4 => 4 | 171 => 233 | 0 => 0 | 53 => 214 | 37 => 134 | 5 => 5 | 173 => 235 | 212 => 248 | 51 => 212 | 20 => 20 | 213 => 249 | 46 => 176 | 232 => 261 | 233 => 262 | n => n, fun | 17 => 1 | 18 => 4 | 19 => 5 | n => n⟩
theorem Tryz.laysM171 : Go.Proofs.LaysM.n171 Tryz.prog Tryz.laysM171_ren := {
  mixed := by kernel_rfl
  f129 := Tryz.func189.trans (congrArg some (by kernel_rfl))
  f171 := Tryz.func163.trans (congrArg some (by kernel_rfl))
  f243 := Tryz.func178.trans (congrArg some (by kernel_rfl))
  f246 := Tryz.func201.trans (congrArg some (by kernel_rfl))
  f283 := Tryz.func220.trans (congrArg some (by kernel_rfl))
  f284 := Tryz.func221.trans (congrArg some (by kernel_rfl))
  f285 := Tryz.func222.trans (congrArg some (by kernel_rfl))
  f286 := Tryz.func223.trans (congrArg some (by kernel_rfl))
  f317 := Tryz.func234.trans (congrArg some (by kernel_rfl))
  f318 := Tryz.func235.trans (congrArg some (by kernel_rfl))
  f319 := Tryz.func236.trans (congrArg some (by kernel_rfl))
  f320 := Tryz.func237.trans (congrArg some (by kernel_rfl))
  f337 := Tryz.func242.trans (congrArg some (by kernel_rfl))
  f338 := Tryz.func243.trans (congrArg some (by kernel_rfl))
  t0 := Tryz.underlying0
  a0 := Tryz.isAgg0
  z0 := Tryz.sizeOf0
  v0 := Tryz.zeroValue0
  t2 := Tryz.underlying2
  a2 := Tryz.isAgg2
  z2 := Tryz.sizeOf2
  v2 := Tryz.zeroValue2
  t3 := Tryz.underlying3
  a3 := Tryz.isAgg3
  z3 := Tryz.sizeOf3
  v3 := Tryz.zeroValue3
  t4 := Tryz.underlying4
  a4 := Tryz.isAgg4
  z4 := Tryz.sizeOf4
  v4 := Tryz.zeroValue4
  t5 := Tryz.underlying5
  a5 := Tryz.isAgg5
  z5 := Tryz.sizeOf5
  v5 := Tryz.zeroValue5
  t9 := Tryz.underlying9
  a9 := Tryz.isAgg9
  z9 := Tryz.sizeOf9
  v9 := Tryz.zeroValue9
  t20 := Tryz.underlying20
  a20 := Tryz.isAgg20
  z20 := Tryz.sizeOf20
  v20 := Tryz.zeroValue20
  t37 := Tryz.underlying134
  a37 := Tryz.isAgg134
  z37 := Tryz.sizeOf134
  v37 := Tryz.zeroValue134
  t46 := Tryz.underlying176
  a46 := Tryz.isAgg176
  z46 := Tryz.sizeOf176
  v46 := Tryz.zeroValue176
  t51 := Tryz.underlying212
  a51 := Tryz.isAgg212
  z51 := Tryz.sizeOf212
  v51 := Tryz.zeroValue212
  t53 := Tryz.underlying214
  a53 := Tryz.isAgg214
  z53 := Tryz.sizeOf214
  v53 := Tryz.zeroValue214
  t171 := Tryz.underlying233
  a171 := Tryz.isAgg233
  z171 := Tryz.sizeOf233
  v171 := Tryz.zeroValue233
  t173 := Tryz.underlying235
  a173 := Tryz.isAgg235
  z173 := Tryz.sizeOf235
  v173 := Tryz.zeroValue235
  t212 := Tryz.underlying248
  a212 := Tryz.isAgg248
  z212 := Tryz.sizeOf248
  v212 := Tryz.zeroValue248
  t213 := Tryz.underlying249
  a213 := Tryz.isAgg249
  z213 := Tryz.sizeOf249
  t232 := Tryz.underlying261
  a232 := Tryz.isAgg261
  z232 := Tryz.sizeOf261
  v232 := Tryz.zeroValue261
  t233 := Tryz.underlying262
  a233 := Tryz.isAgg262
  z233 := Tryz.sizeOf262
  v233 := Tryz.zeroValue262
  g17 := by kernel_rfl
  g18 := by kernel_rfl
  g19 := by kernel_rfl
  i0 := by kernel_rfl
  i2 := by kernel_rfl
  i3 := by kernel_rfl
  i4 := by kernel_rfl
  i5 := by kernel_rfl
  i9 := by kernel_rfl
  i20 := by kernel_rfl
  i37 := by kernel_rfl
  i46 := by kernel_rfl
  i51 := by kernel_rfl
  i53 := by kernel_rfl
  i171 := by kernel_rfl
  i173 := by kernel_rfl
  i212 := by kernel_rfl
  i232 := by kernel_rfl
  i233 := by kernel_rfl
  m17 := by kernel_rfl
  m18 := by kernel_rfl
  m19 := by kernel_rfl }
open Go.RowKit Go.Sort Go.Lib in
theorem Tryz.strconv_Itoa (n : Int) (h0 : -9223372036854775808 ≤ n) (h1 : n ≤ 9223372036854775807) (w : World) (htab : Lib.TabIs Tryz.prog w "internal/strconv.uint64pow10" .u64 Lib.pow10Tab) :
    Calls Tryz.prog 163 #[.int .i64 n] w fun e w' => e = .returned (.string ⟨(Lib.itoa n).toArray⟩) ∧ ∃ k os, w' = grow (w.drewN k) os := Any.strconv_Itoa Tryz.laysM171 n h0 h1 w htab
def Tryz.laysC172_ren : Go.Shelf.Ren := ⟨fun | 172 => 190 | 244 => 210 | 245 => 211 | 247 => 229 | 279 => 230 | 280 => 231 | 281 => 232 | 282 => 233 | 287 => 239 | 316 => 240 | 171 => 163 | 205 => 241 | 321 => 244 | 322 => 245 | 243 => 178 | 246 => 201 | 283 => 220 | 284 => 221 | 285 => 222 | 286 => 223 | 129 => 189 | 317 => 234 | 318 => 235 | 319 => 236 | 320 => 237 | 337 => 242 | 338 => 243 | n => n, fun | 9 => 9 | 3 => 3 | 75 => 187 | 76 => 189 | 4 => 4 | 5 => 5 | 167 => 242 | 37 => 134 | 0 => 0 | 85 => 243 | 2 => 2 | 168 => 245 | 53 => 214 | 175 => 251 | 46 => 176 | 210 => 255 | 127 => 202 | 145 => 260 | 143 => 258 | 21 => 21 | 171 => 233 | 173 => 235 | 212 => 248 | 51 => 212 | 20 => 20 | 213 => 249 | 232 => 261 | 233 => 262 | 80 => 192 | n => n, fun | 15 => 2 | 16 => 3 | 17 => 1 | 18 => 4 | 19 => 5 | n => n⟩
theorem Tryz.laysC172 : Go.Proofs.LaysC.n172 Tryz.prog Tryz.laysC172_ren := {
  mixed := by kernel_rfl
  f129 := Tryz.func189.trans (congrArg some (by kernel_rfl))
  f171 := Tryz.func163.trans (congrArg some (by kernel_rfl))
  f172 := Tryz.func190.trans (congrArg some (by kernel_rfl))
  f205 := Tryz.func241.trans (congrArg some (by kernel_rfl))
  f243 := Tryz.func178.trans (congrArg some (by kernel_rfl))
  f244 := Tryz.func210.trans (congrArg some (by kernel_rfl))
  f245 := Tryz.func211.trans (congrArg some (by kernel_rfl))
  f246 := Tryz.func201.trans (congrArg some (by kernel_rfl))
  f247 := Tryz.func229.trans (congrArg some (by kernel_rfl))
  f279 := Tryz.func230.trans (congrArg some (by kernel_rfl))
  f280 := Tryz.func231.trans (congrArg some (by kernel_rfl))
  f281 := Tryz.func232.trans (congrArg some (by kernel_rfl))
  f282 := Tryz.func233.trans (congrArg some (by kernel_rfl))
  f283 := Tryz.func220.trans (congrArg some (by kernel_rfl))
  f284 := Tryz.func221.trans (congrArg some (by kernel_rfl))
  f285 := Tryz.func222.trans (congrArg some (by kernel_rfl))
  f286 := Tryz.func223.trans (congrArg some (by kernel_rfl))
  f287 := Tryz.func239.trans (congrArg some (by kernel_rfl))
  f316 := Tryz.func240.trans (congrArg some (by kernel_rfl))
  f317 := Tryz.func234.trans (congrArg some (by kernel_rfl))
  f318 := Tryz.func235.trans (congrArg some (by kernel_rfl))
  f319 := Tryz.func236.trans (congrArg some (by kernel_rfl))
  f320 := Tryz.func237.trans (congrArg some (by kernel_rfl))
  f321 := Tryz.func244.trans (congrArg some (by kernel_rfl))
  f322 := Tryz.func245.trans (congrArg some (by kernel_rfl))
  f337 := Tryz.func242.trans (congrArg some (by kernel_rfl))
  f338 := Tryz.func243.trans (congrArg some (by kernel_rfl))
  t0 := Tryz.underlying0
  a0 := Tryz.isAgg0
  z0 := Tryz.sizeOf0
  v0 := Tryz.zeroValue0
  t2 := Tryz.underlying2
  a2 := Tryz.isAgg2
  z2 := Tryz.sizeOf2
  v2 := Tryz.zeroValue2
  t3 := Tryz.underlying3
  a3 := Tryz.isAgg3
  z3 := Tryz.sizeOf3
  v3 := Tryz.zeroValue3
  t4 := Tryz.underlying4
  a4 := Tryz.isAgg4
  z4 := Tryz.sizeOf4
  v4 := Tryz.zeroValue4
  t5 := Tryz.underlying5
  a5 := Tryz.isAgg5
  z5 := Tryz.sizeOf5
  v5 := Tryz.zeroValue5
  t9 := Tryz.underlying9
  a9 := Tryz.isAgg9
  z9 := Tryz.sizeOf9
  v9 := Tryz.zeroValue9
  t20 := Tryz.underlying20
  a20 := Tryz.isAgg20
  z20 := Tryz.sizeOf20
  v20 := Tryz.zeroValue20
  t21 := Tryz.underlying21
  a21 := Tryz.isAgg21
  z21 := Tryz.sizeOf21
  v21 := Tryz.zeroValue21
  t37 := Tryz.underlying134
  a37 := Tryz.isAgg134
  z37 := Tryz.sizeOf134
  v37 := Tryz.zeroValue134
  t46 := Tryz.underlying176
  a46 := Tryz.isAgg176
  z46 := Tryz.sizeOf176
  v46 := Tryz.zeroValue176
  t51 := Tryz.underlying212
  a51 := Tryz.isAgg212
  z51 := Tryz.sizeOf212
  v51 := Tryz.zeroValue212
  t53 := Tryz.underlying214
  a53 := Tryz.isAgg214
  z53 := Tryz.sizeOf214
  v53 := Tryz.zeroValue214
  t75 := Tryz.underlying187
  a75 := Tryz.isAgg187
  z75 := Tryz.sizeOf187
  v75 := Tryz.zeroValue187
  t76 := Tryz.underlying189
  a76 := Tryz.isAgg189
  z76 := Tryz.sizeOf189
  v76 := Tryz.zeroValue189
  t85 := Tryz.underlying243
  a85 := Tryz.isAgg243
  z85 := Tryz.sizeOf243
  v85 := Tryz.zeroValue243
  t127 := Tryz.underlying202
  a127 := Tryz.isAgg202
  z127 := Tryz.sizeOf202
  v127 := Tryz.zeroValue202
  t143 := Tryz.underlying258
  a143 := Tryz.isAgg258
  z143 := Tryz.sizeOf258
  v143 := Tryz.zeroValue258
  t145 := Tryz.underlying260
  a145 := Tryz.isAgg260
  z145 := Tryz.sizeOf260
  v145 := Tryz.zeroValue260
  t167 := Tryz.underlying242
  a167 := Tryz.isAgg242
  z167 := Tryz.sizeOf242
  v167 := Tryz.zeroValue242
  t168 := Tryz.underlying245
  a168 := Tryz.isAgg245
  z168 := Tryz.sizeOf245
  v168 := Tryz.zeroValue245
  t171 := Tryz.underlying233
  a171 := Tryz.isAgg233
  z171 := Tryz.sizeOf233
  v171 := Tryz.zeroValue233
  t173 := Tryz.underlying235
  a173 := Tryz.isAgg235
  z173 := Tryz.sizeOf235
  v173 := Tryz.zeroValue235
  t175 := Tryz.underlying251
  a175 := Tryz.isAgg251
  z175 := Tryz.sizeOf251
  v175 := Tryz.zeroValue251
  t210 := Tryz.underlying255
  a210 := Tryz.isAgg255
  z210 := Tryz.sizeOf255
  v210 := Tryz.zeroValue255
  t212 := Tryz.underlying248
  a212 := Tryz.isAgg248
  z212 := Tryz.sizeOf248
  v212 := Tryz.zeroValue248
  t213 := Tryz.underlying249
  a213 := Tryz.isAgg249
  z213 := Tryz.sizeOf249
  t232 := Tryz.underlying261
  a232 := Tryz.isAgg261
  z232 := Tryz.sizeOf261
  v232 := Tryz.zeroValue261
  t233 := Tryz.underlying262
  a233 := Tryz.isAgg262
  z233 := Tryz.sizeOf262
  v233 := Tryz.zeroValue262
  g15 := by kernel_rfl
  g16 := by kernel_rfl
  g17 := by kernel_rfl
  g18 := by kernel_rfl
  g19 := by kernel_rfl
  t80 := Tryz.underlying192
  a80 := Tryz.isAgg192
  z80 := Tryz.sizeOf192
  v80 := Tryz.zeroValue192
  i0 := by kernel_rfl
  i2 := by kernel_rfl
  i3 := by kernel_rfl
  i4 := by kernel_rfl
  i5 := by kernel_rfl
  i9 := by kernel_rfl
  i20 := by kernel_rfl
  i21 := by kernel_rfl
  i37 := by kernel_rfl
  i46 := by kernel_rfl
  i51 := by kernel_rfl
  i53 := by kernel_rfl
  i75 := by kernel_rfl
  i76 := by kernel_rfl
  i80 := by kernel_rfl
  i85 := by kernel_rfl
  i127 := by kernel_rfl
  i143 := by kernel_rfl
  i145 := by kernel_rfl
  i167 := by kernel_rfl
  i168 := by kernel_rfl
  i171 := by kernel_rfl
  i173 := by kernel_rfl
  i175 := by kernel_rfl
  i210 := by kernel_rfl
  i212 := by kernel_rfl
  i232 := by kernel_rfl
  i233 := by kernel_rfl
  m15 := by kernel_rfl
  m16 := by kernel_rfl
  m17 := by kernel_rfl
  m18 := by kernel_rfl
  m19 := by kernel_rfl
  c0 := by kernel_rfl
  c2 := by kernel_rfl
  c3 := by kernel_rfl
  c4 := by kernel_rfl
  c5 := by kernel_rfl
  c9 := by kernel_rfl
  c20 := by kernel_rfl
  c21 := by kernel_rfl
  c37 := by kernel_rfl
  c46 := by kernel_rfl
  c51 := by kernel_rfl
  c53 := by kernel_rfl
  c75 := by kernel_rfl
  c76 := by kernel_rfl
  c80 := by kernel_rfl
  c85 := by kernel_rfl
  c127 := by kernel_rfl
  c143 := by kernel_rfl
  c145 := by kernel_rfl
  c167 := by kernel_rfl
  c168 := by kernel_rfl
  c171 := by kernel_rfl
  c173 := by kernel_rfl
  c175 := by kernel_rfl
  c210 := by kernel_rfl
  c212 := by kernel_rfl
  c213 := by kernel_rfl
  c232 := by kernel_rfl
  c233 := by kernel_rfl }
open Go.RowKit in
theorem Tryz.strconv_Atoi_ok (s : ByteArray) (hmax : s.size ≤ 9223372036854775806) (v : Int) (h : Lib.atoiAll s.data.toList = .ok v) (w : World) :
    Calls Tryz.prog 190 #[.string s] w fun e w' => e = .returned (.tuple #[.int .i64 v, .nilIface]) ∧ (w' = w ∨ ∃ t, w' = Lib.bytesWorld w 5 t) := Any.strconv_Atoi_ok Tryz.laysC172 s hmax v h w
def Tryz.lays219_ren : Go.Shelf.Ren := ⟨fun | 219 => 177 | 217 => 197 | 225 => 198 | 224 => 199 | 267 => 200 | 266 => 218 | 314 => 219 | n => n, fun | 9 => 9 | 3 => 3 | 4 => 4 | 5 => 5 | 46 => 176 | 146 => 231 | 51 => 212 | n => n, fun | 1 => 0 | n => n⟩
def Tryz.lays144_ren : Go.Shelf.Ren := ⟨fun | 144 => 133 | 143 => 162 | 219 => 177 | 217 => 197 | 225 => 198 | 224 => 199 | 267 => 200 | 266 => 218 | 314 => 219 | n => n, fun | 9 => 9 | 4 => 4 | 3 => 3 | 5 => 5 | 46 => 176 | 146 => 231 | 51 => 212 | n => n, fun | 1 => 0 | n => n⟩
theorem Tryz.lays144 : Go.Proofs.Lays.n144 Tryz.prog Tryz.lays144_ren := {
  mixed := by kernel_rfl
  f143 := Tryz.func162.trans (congrArg some (by kernel_rfl))
  f144 := Tryz.func133.trans (congrArg some (by kernel_rfl))
  f217 := Tryz.func197.trans (congrArg some (by kernel_rfl))
  f219 := Tryz.func177.trans (congrArg some (by kernel_rfl))
  f224 := Tryz.func199.trans (congrArg some (by kernel_rfl))
  f225 := Tryz.func198.trans (congrArg some (by kernel_rfl))
  f266 := Tryz.func218.trans (congrArg some (by kernel_rfl))
  f267 := Tryz.func200.trans (congrArg some (by kernel_rfl))
  f314 := Tryz.func219.trans (congrArg some (by kernel_rfl))
  t3 := Tryz.underlying3
  a3 := Tryz.isAgg3
  z3 := Tryz.sizeOf3
  v3 := Tryz.zeroValue3
  t4 := Tryz.underlying4
  a4 := Tryz.isAgg4
  z4 := Tryz.sizeOf4
  v4 := Tryz.zeroValue4
  t5 := Tryz.underlying5
  a5 := Tryz.isAgg5
  z5 := Tryz.sizeOf5
  v5 := Tryz.zeroValue5
  t9 := Tryz.underlying9
  a9 := Tryz.isAgg9
  z9 := Tryz.sizeOf9
  v9 := Tryz.zeroValue9
  t46 := Tryz.underlying176
  a46 := Tryz.isAgg176
  z46 := Tryz.sizeOf176
  v46 := Tryz.zeroValue176
  t51 := Tryz.underlying212
  a51 := Tryz.isAgg212
  z51 := Tryz.sizeOf212
  v51 := Tryz.zeroValue212
  t146 := Tryz.underlying231
  a146 := Tryz.isAgg231
  z146 := Tryz.sizeOf231
  v146 := Tryz.zeroValue231
  g1 := by kernel_rfl }
open Go.RowKit Go.Lib in
theorem Tryz.strings_Contains (s sub : ByteArray) (m : Int) (w : World) (hs : s.size < 4294967281) (hm : w.cell? ⟨0, 0, none⟩ = some (.int .i64 m)) :
    Calls Tryz.prog 133 #[.string s, .string sub] w fun e w' => e = .returned (.bool (Lib.contains s.data.toList sub.data.toList)) ∧ w' = w := Any.strings_Contains Tryz.lays144 s sub m w hs hm
def Tryz.lays206_ren : Go.Shelf.Ren := ⟨fun | 206 => 226 | n => n, fun | 9 => 9 | 4 => 4 | 3 => 3 | n => n, fun | n => n⟩
def Tryz.lays99_ren : Go.Shelf.Ren := ⟨fun | 99 => 203 | 206 => 226 | n => n, fun | 9 => 9 | 4 => 4 | 3 => 3 | n => n, fun | n => n⟩
theorem Tryz.lays99 : Go.Proofs.Lays.n99 Tryz.prog Tryz.lays99_ren := {
  mixed := by kernel_rfl
  f99 := Tryz.func203.trans (congrArg some (by kernel_rfl))
  f206 := Tryz.func226.trans (congrArg some (by kernel_rfl))
  t3 := Tryz.underlying3
  a3 := Tryz.isAgg3
  z3 := Tryz.sizeOf3
  v3 := Tryz.zeroValue3
  t4 := Tryz.underlying4
  a4 := Tryz.isAgg4
  z4 := Tryz.sizeOf4
  v4 := Tryz.zeroValue4
  t9 := Tryz.underlying9
  a9 := Tryz.isAgg9
  z9 := Tryz.sizeOf9
  v9 := Tryz.zeroValue9 }
open Go.RowKit Go.Lib in
theorem Tryz.strings_HasPrefix (s p : ByteArray) (w : World) :
    Calls Tryz.prog 203 #[.string s, .string p] w fun e w' => e = .returned (.bool (Lib.hasPrefix s.data.toList p.data.toList)) ∧ w' = w := Any.strings_HasPrefix Tryz.lays99 s p w
def Tryz.lays105_ren : Go.Shelf.Ren := ⟨fun | 105 => 179 | 212 => 202 | 99 => 203 | 165 => 204 | 166 => 159 | 170 => 160 | 169 => 161 | 263 => 224 | 264 => 225 | 206 => 226 | 240 => 176 | 241 => 227 | 276 => 196 | 277 => 238 | n => n, fun | 9 => 9 | 3 => 3 | 4 => 4 | 20 => 20 | 0 => 0 | 46 => 176 | 109 => 222 | 5 => 5 | 72 => 184 | 76 => 189 | 51 => 212 | 146 => 231 | 53 => 214 | 148 => 238 | 70 => 182 | 37 => 134 | 75 => 187 | 127 => 202 | 164 => 218 | 80 => 192 | n => n, fun | n => n⟩
theorem Tryz.lays105 : Go.Proofs.Lays.n105 Tryz.prog Tryz.lays105_ren := {
  mixed := by kernel_rfl
  f99 := Tryz.func203.trans (congrArg some (by kernel_rfl))
  f105 := Tryz.func179.trans (congrArg some (by kernel_rfl))
  f165 := Tryz.func204.trans (congrArg some (by kernel_rfl))
  f166 := Tryz.func159.trans (congrArg some (by kernel_rfl))
  f169 := Tryz.func161.trans (congrArg some (by kernel_rfl))
  f170 := Tryz.func160.trans (congrArg some (by kernel_rfl))
  f206 := Tryz.func226.trans (congrArg some (by kernel_rfl))
  f212 := Tryz.func202.trans (congrArg some (by kernel_rfl))
  f240 := Tryz.func176.trans (congrArg some (by kernel_rfl))
  f241 := Tryz.func227.trans (congrArg some (by kernel_rfl))
  f263 := Tryz.func224.trans (congrArg some (by kernel_rfl))
  f264 := Tryz.func225.trans (congrArg some (by kernel_rfl))
  f276 := Tryz.func196.trans (congrArg some (by kernel_rfl))
  f277 := Tryz.func238.trans (congrArg some (by kernel_rfl))
  t0 := Tryz.underlying0
  a0 := Tryz.isAgg0
  z0 := Tryz.sizeOf0
  v0 := Tryz.zeroValue0
  t3 := Tryz.underlying3
  a3 := Tryz.isAgg3
  z3 := Tryz.sizeOf3
  v3 := Tryz.zeroValue3
  t4 := Tryz.underlying4
  a4 := Tryz.isAgg4
  z4 := Tryz.sizeOf4
  v4 := Tryz.zeroValue4
  t5 := Tryz.underlying5
  a5 := Tryz.isAgg5
  z5 := Tryz.sizeOf5
  v5 := Tryz.zeroValue5
  t9 := Tryz.underlying9
  a9 := Tryz.isAgg9
  z9 := Tryz.sizeOf9
  v9 := Tryz.zeroValue9
  t20 := Tryz.underlying20
  a20 := Tryz.isAgg20
  z20 := Tryz.sizeOf20
  v20 := Tryz.zeroValue20
  t37 := Tryz.underlying134
  a37 := Tryz.isAgg134
  z37 := Tryz.sizeOf134
  v37 := Tryz.zeroValue134
  t46 := Tryz.underlying176
  a46 := Tryz.isAgg176
  z46 := Tryz.sizeOf176
  v46 := Tryz.zeroValue176
  t51 := Tryz.underlying212
  a51 := Tryz.isAgg212
  z51 := Tryz.sizeOf212
  v51 := Tryz.zeroValue212
  t53 := Tryz.underlying214
  a53 := Tryz.isAgg214
  z53 := Tryz.sizeOf214
  v53 := Tryz.zeroValue214
  t70 := Tryz.underlying182
  a70 := Tryz.isAgg182
  z70 := Tryz.sizeOf182
  v70 := Tryz.zeroValue182
  t72 := Tryz.underlying184
  a72 := Tryz.isAgg184
  z72 := Tryz.sizeOf184
  v72 := Tryz.zeroValue184
  t75 := Tryz.underlying187
  a75 := Tryz.isAgg187
  z75 := Tryz.sizeOf187
  v75 := Tryz.zeroValue187
  t76 := Tryz.underlying189
  a76 := Tryz.isAgg189
  z76 := Tryz.sizeOf189
  v76 := Tryz.zeroValue189
  t109 := Tryz.underlying222
  a109 := Tryz.isAgg222
  z109 := Tryz.sizeOf222
  v109 := Tryz.zeroValue222
  t127 := Tryz.underlying202
  a127 := Tryz.isAgg202
  z127 := Tryz.sizeOf202
  v127 := Tryz.zeroValue202
  t146 := Tryz.underlying231
  a146 := Tryz.isAgg231
  z146 := Tryz.sizeOf231
  v146 := Tryz.zeroValue231
  t148 := Tryz.underlying238
  a148 := Tryz.isAgg238
  z148 := Tryz.sizeOf238
  v148 := Tryz.zeroValue238
  t164 := Tryz.underlying218
  a164 := Tryz.isAgg218
  z164 := Tryz.sizeOf218
  v164 := Tryz.zeroValue218 }
theorem Tryz.Builder_Extra_105 : Builder.Extra Tryz.prog Tryz.lays105_ren := {
  sizeBuilder := by kernel_rfl
  liesBuilder := by kernel_rfl
  t5 := Tryz.underlying5
  a5 := Tryz.isAgg5
  z5 := Tryz.sizeOf5
  v5 := Tryz.zeroValue5
  infoByte := by kernel_rfl
  cellsByte := by kernel_rfl
  sizeByte := by kernel_rfl
  neB5 := by decide }
open Go.RowKit Go.Lib in
theorem Tryz.strings_Repeat (s : ByteArray) (c : Nat) (w : World) (hc : c ≤ 9223372036854775807) (hlen : s.size * c ≤ 140737488355328) :
    Calls Tryz.prog 179 #[.string s, .int .i64 c] w fun e w' => e = .returned (.string ⟨(Lib.repeatL s.data.toList c).toArray⟩) ∧ Below w.heap.size w w' := Any.strings_Repeat Tryz.lays105 Tryz.Builder_Extra_105 s c w hc hlen
end Go.Proofs
namespace Go.Proofs.YtcnnjladaoaeiaaGreatDoor
open Go.RowKit
theorem isL_rw {c : UInt8} {b : Bool} (h : isL c = b) (w : World) : Calls Tryz.prog 212 #[.int .u8 (c.toNat : Int)] w fun e w' => e = .returned (.bool b) ∧ w' = w := by
  rw [← h]; exact letter_any c w
theorem isD_rw {c : UInt8} {b : Bool} (h : isD c = b) (w : World) : Calls Tryz.prog 214 #[.int .u8 (c.toNat : Int)] w fun e w' => e = .returned (.bool b) ∧ w' = w := by
  rw [← h]; exact digit_any c w
theorem span_quot_at (s : ByteArray) (a : Nat) (i : Int) (w : World) (hi : i = (a : Int)) (hs : s.size ≤ 9223372036854775000) (ha : a ≤ s.size) :
    Calls Tryz.prog 192 #[.string s, .int .i64 i, .func (.func 215) #[] #[]] w fun e w' => e = .returned (.int .i64 (spanE isQ s a : Nat)) ∧ w' = w := by
  subst hi; exact span_quot s a w hs ha
theorem next_name (s : ByteArray) (a : Nat) (w : World) (hs : s.size ≤ 2000) (ha : a < s.size) (hc : isL s[a] = true) :
    Calls Tryz.prog 194 #[.string s, .int .i64 (a : Int)] w fun e w' => e = .returned (.agg #[.int .i64 1, .int .i64 (a : Int), .string (s.extract a (spanE isW s a))]) ∧ Below w.heap.size w w' := by
  have h1 := isL_rw hc
  have h2 := spanE_le isW s a (by omega)
  have h3 := spanE_ge isW s a
  clear hc
  go_enter Tryz.func194, Tryz.ntmps194
  go_wp2_with (first | (go_at_call 212; refine (h1 _).mono ?_; rintro e w' ⟨rfl, rfl⟩) | (go_at_call 192; refine (span_word _ _ _ (by omega) (by omega)).mono ?_; rintro e w' ⟨rfl, rfl⟩))
  exact bodyPost_ret (v := .agg #[.int .i64 1, .int .i64 (a : Int), .string (s.extract a (spanE isW s a))]) (by simp [results, Tryz.results194, go_sem]) rfl ⟨rfl, (Below.refl _ _).alloc (Nat.le_refl _) _⟩
theorem next_number (s : ByteArray) (a : Nat) (w : World) (hs : s.size ≤ 2000) (ha : a < s.size) (hc : isL s[a] = false) (hd : isD s[a] = true) :
    Calls Tryz.prog 194 #[.string s, .int .i64 (a : Int)] w fun e w' => e = .returned (.agg #[.int .i64 2, .int .i64 (a : Int), .string (s.extract a (spanE isD s a))]) ∧ Below w.heap.size w w' := by
  have h1 := isL_rw hc
  have h1b := isD_rw hd
  have h2 := spanE_le isD s a (by omega)
  have h3 := spanE_ge isD s a
  clear hc hd
  go_enter Tryz.func194, Tryz.ntmps194
  go_wp2_with (first | (go_at_call 212; refine (h1 _).mono ?_; rintro e w' ⟨rfl, rfl⟩) | (go_at_call 214; refine (h1b _).mono ?_; rintro e w' ⟨rfl, rfl⟩) | (go_at_call 192; refine (span_digit _ _ _ (by omega) (by omega)).mono ?_; rintro e w' ⟨rfl, rfl⟩))
  exact bodyPost_ret (v := .agg #[.int .i64 2, .int .i64 (a : Int), .string (s.extract a (spanE isD s a))]) (by simp [results, Tryz.results194, go_sem]) rfl ⟨rfl, (Below.refl _ _).alloc (Nat.le_refl _) _⟩
theorem next_text (s : ByteArray) (a : Nat) (w : World) (hs : s.size ≤ 2000) (ha : a < s.size) (hc : isL s[a] = false) (hd : isD s[a] = false) (hq : ((s[a].toNat : Int) == 39) = true)
    (he : spanE isQ s (a + 1) < s.size) (hz : ((s[spanE isQ s (a + 1)].toNat : Int) == 39) = true) :
    Calls Tryz.prog 194 #[.string s, .int .i64 (a : Int)] w fun e w' => e = .returned (.agg #[.int .i64 3, .int .i64 (a : Int), .string (s.extract a (spanE isQ s (a + 1) + 1))]) ∧ Below w.heap.size w w' := by
  have h1 := isL_rw hc
  have h1b := isD_rw hd
  have h3 := spanE_ge isQ s (a + 1)
  clear hc hd
  go_enter Tryz.func194, Tryz.ntmps194
  go_wp2_with (first | (go_at_call 212; refine (h1 _).mono ?_; rintro e w' ⟨rfl, rfl⟩) | (go_at_call 214; refine (h1b _).mono ?_; rintro e w' ⟨rfl, rfl⟩) | (go_at_call 192; refine (span_quot_at s (a + 1) _ _ (by omega) (by omega) (by omega)).mono ?_; rintro e w' ⟨rfl, rfl⟩))
  exact bodyPost_ret (v := .agg #[.int .i64 3, .int .i64 (a : Int), .string (s.extract a (spanE isQ s (a + 1) + 1))]) (by simp [results, Tryz.results194, go_sem]) rfl ⟨rfl, (Below.refl _ _).alloc (Nat.le_refl _) _⟩
theorem next_open (s : ByteArray) (a : Nat) (w : World) (hs : s.size ≤ 2000) (ha : a < s.size) (hc : isL s[a] = false) (hd : isD s[a] = false) (hq : ((s[a].toNat : Int) == 39) = true)
    (he : ¬ spanE isQ s (a + 1) < s.size) :
    Calls Tryz.prog 194 #[.string s, .int .i64 (a : Int)] w fun e w' => e = .returned (.agg #[.int .i64 0, .int .i64 0, .string ⟨#[]⟩]) ∧ Below w.heap.size w w' := by
  have h1 := isL_rw hc
  have h1b := isD_rw hd
  have h3 := spanE_ge isQ s (a + 1)
  clear hc hd
  go_enter Tryz.func194, Tryz.ntmps194
  go_wp2_with (first | (go_at_call 212; refine (h1 _).mono ?_; rintro e w' ⟨rfl, rfl⟩) | (go_at_call 214; refine (h1b _).mono ?_; rintro e w' ⟨rfl, rfl⟩) | (go_at_call 192; refine (span_quot_at s (a + 1) _ _ (by omega) (by omega) (by omega)).mono ?_; rintro e w' ⟨rfl, rfl⟩))
  exact bodyPost_ret (v := .agg #[.int .i64 0, .int .i64 0, .string ⟨#[]⟩]) (by simp [results, Tryz.results194, go_sem]) rfl ⟨rfl, (Below.refl _ _).alloc (Nat.le_refl _) _⟩
theorem next_broken (s : ByteArray) (a : Nat) (w : World) (hs : s.size ≤ 2000) (ha : a < s.size) (hc : isL s[a] = false) (hd : isD s[a] = false) (hq : ((s[a].toNat : Int) == 39) = true)
    (he : spanE isQ s (a + 1) < s.size) (hz : ((s[spanE isQ s (a + 1)].toNat : Int) == 39) = false) :
    Calls Tryz.prog 194 #[.string s, .int .i64 (a : Int)] w fun e w' => e = .returned (.agg #[.int .i64 0, .int .i64 0, .string ⟨#[]⟩]) ∧ Below w.heap.size w w' := by
  have h1 := isL_rw hc
  have h1b := isD_rw hd
  have h3 := spanE_ge isQ s (a + 1)
  clear hc hd
  go_enter Tryz.func194, Tryz.ntmps194
  go_wp2_with (first | (go_at_call 212; refine (h1 _).mono ?_; rintro e w' ⟨rfl, rfl⟩) | (go_at_call 214; refine (h1b _).mono ?_; rintro e w' ⟨rfl, rfl⟩) | (go_at_call 192; refine (span_quot_at s (a + 1) _ _ (by omega) (by omega) (by omega)).mono ?_; rintro e w' ⟨rfl, rfl⟩))
  exact bodyPost_ret (v := .agg #[.int .i64 0, .int .i64 0, .string ⟨#[]⟩]) (by simp [results, Tryz.results194, go_sem]) rfl ⟨rfl, (Below.refl _ _).alloc (Nat.le_refl _) _⟩
def isBars (l : List UInt8) : Bool := Lib.hasPrefix l [124, 124]
def isS (c : UInt8) : Bool := decide (c ∈ ([40, 41, 44, 59, 42, 61, 60, 43, 45] : List UInt8))
theorem extract_end (s : ByteArray) (a : Nat) : (s.extract a s.size).data.toList = s.data.toList.drop a := by
  rw [Lib.extract_data, List.take_of_length_le]
  simp
theorem hasPrefix_rw (s : ByteArray) (a : Nat) {b : Bool} (h : isBars (s.data.toList.drop a) = b) (w : World) :
    Calls Tryz.prog 203 #[.string (s.extract a s.size), .string ⟨#[124, 124]⟩] w fun e w' => e = .returned (.bool b) ∧ w' = w := by
  have := Tryz.strings_HasPrefix (s.extract a s.size) ⟨#[124, 124]⟩ w
  rw [extract_end] at this
  rw [← h]; exact this
theorem indexByte_mem (l : List UInt8) (c : UInt8) : 0 ≤ Lib.indexByte l c ↔ c ∈ l := by
  induction l with
  | nil => simp [Lib.indexByte]
  | cons b l ih =>
    have g := Lib.indexByte_ge l c
    unfold Lib.indexByte
    by_cases h : b = c
    · subst h; simp
    · have h' : ¬ c = b := fun e => h e.symm
      rw [if_neg (by simpa using h)]
      by_cases h2 : Lib.indexByte l c = -1
      · rw [if_pos (by simpa using h2)]
        have : ¬ c ∈ l := fun m => by have := ih.2 m; omega
        simp [h', this]
      · rw [if_neg (by simpa using h2)]
        have : c ∈ l := ih.1 (by omega)
        simp [this]; omega
theorem indexByte_rw (c : UInt8) (w : World) :
    Calls Tryz.prog 216 #[.string ⟨#[40, 41, 44, 59, 42, 61, 60, 43, 45]⟩, .int .u8 (c.toNat : Int)] w fun e w' => (∃ n : Int, e = .returned (.int .i64 n) ∧ (0 ≤ n ↔ isS c = true)) ∧ w' = w := by
  refine (Tryz.strings_IndexByte _ _ _).mono ?_
  rintro e w' ⟨rfl, rfl⟩
  refine ⟨⟨_, rfl, ?_⟩, rfl⟩
  rw [indexByte_mem]
  simp [isS]
theorem next_bars (s : ByteArray) (a : Nat) (w : World) (hs : s.size ≤ 2000) (ha : a + 2 ≤ s.size) (hc : isL s[a] = false) (hd : isD s[a] = false) (hq : ((s[a].toNat : Int) == 39) = false)
    (hp : isBars (s.data.toList.drop a) = true) :
    Calls Tryz.prog 194 #[.string s, .int .i64 (a : Int)] w fun e w' => e = .returned (.agg #[.int .i64 4, .int .i64 (a : Int), .string (s.extract a (a + 2))]) ∧ Below w.heap.size w w' := by
  have h1 := isL_rw hc
  have h1b := isD_rw hd
  have h2 := hasPrefix_rw s a hp
  clear hc hd hp
  go_enter Tryz.func194, Tryz.ntmps194
  go_wp2_with (first | (go_at_call 212; refine (h1 _).mono ?_; rintro e w' ⟨rfl, rfl⟩) | (go_at_call 214; refine (h1b _).mono ?_; rintro e w' ⟨rfl, rfl⟩) | (go_at_call 203; refine (h2 _).mono ?_; rintro e w' ⟨rfl, rfl⟩))
  exact bodyPost_ret (v := .agg #[.int .i64 4, .int .i64 (a : Int), .string (s.extract a (a + 2))]) (by simp [results, Tryz.results194, go_sem]) rfl ⟨rfl, (Below.refl _ _).alloc (Nat.le_refl _) _⟩
theorem next_sign (s : ByteArray) (a : Nat) (w : World) (hs : s.size ≤ 2000) (ha : a < s.size) (hc : isL s[a] = false) (hd : isD s[a] = false) (hq : ((s[a].toNat : Int) == 39) = false)
    (hp : isBars (s.data.toList.drop a) = false) (hg : isS s[a] = true) :
    Calls Tryz.prog 194 #[.string s, .int .i64 (a : Int)] w fun e w' => e = .returned (.agg #[.int .i64 4, .int .i64 (a : Int), .string (s.extract a (a + 1))]) ∧ Below w.heap.size w w' := by
  have h1 := isL_rw hc
  have h1b := isD_rw hd
  have h2 := hasPrefix_rw s a hp
  have HG : Hid (isS s[a] = true) := hg
  clear hc hd hp hg
  go_enter Tryz.func194, Tryz.ntmps194
  go_wp2_with (first | (go_at_call 212; refine (h1 _).mono ?_; rintro e w' ⟨rfl, rfl⟩) | (go_at_call 214; refine (h1b _).mono ?_; rintro e w' ⟨rfl, rfl⟩) | (go_at_call 203; refine (h2 _).mono ?_; rintro e w' ⟨rfl, rfl⟩) | (go_at_call 216; refine (indexByte_rw _ _).mono ?_; rintro e w' ⟨⟨n, rfl, hn⟩, rfl⟩; replace hn := hn.2 HG.out))
  exact bodyPost_ret (v := .agg #[.int .i64 4, .int .i64 (a : Int), .string (s.extract a (a + 1))]) (by simp [results, Tryz.results194, go_sem]) rfl ⟨rfl, (Below.refl _ _).alloc (Nat.le_refl _) _⟩
theorem next_none (s : ByteArray) (a : Nat) (w : World) (_hs : s.size ≤ 2000) (ha : a < s.size) (hc : isL s[a] = false) (hd : isD s[a] = false) (hq : ((s[a].toNat : Int) == 39) = false)
    (hp : isBars (s.data.toList.drop a) = false) (hg : isS s[a] = false) :
    Calls Tryz.prog 194 #[.string s, .int .i64 (a : Int)] w fun e w' => e = .returned (.agg #[.int .i64 0, .int .i64 0, .string ⟨#[]⟩]) ∧ Below w.heap.size w w' := by
  have h1 := isL_rw hc
  have h1b := isD_rw hd
  have h2 := hasPrefix_rw s a hp
  have HG : Hid (isS s[a] = false) := hg
  clear hc hd hp hg
  go_enter Tryz.func194, Tryz.ntmps194
  go_wp2_with (first | (go_at_call 212; refine (h1 _).mono ?_; rintro e w' ⟨rfl, rfl⟩) | (go_at_call 214; refine (h1b _).mono ?_; rintro e w' ⟨rfl, rfl⟩) | (go_at_call 203; refine (h2 _).mono ?_; rintro e w' ⟨rfl, rfl⟩) | (go_at_call 216; refine (indexByte_rw _ _).mono ?_; rintro e w' ⟨⟨n, rfl, hn⟩, rfl⟩; replace hn : n < 0 := by (have hx := HG.out; rcases Int.lt_or_le n 0 with h | h; exact h; rw [hn.1 h] at hx; cases hx)))
  exact bodyPost_ret (v := .agg #[.int .i64 0, .int .i64 0, .string ⟨#[]⟩]) (by simp [results, Tryz.results194, go_sem]) rfl ⟨rfl, (Below.refl _ _).alloc (Nat.le_refl _) _⟩
def tokL : List UInt8 → Nat × Nat
  | [] => (0, 0)
  | c :: r =>
    if isL c = true then (1, runL isW r + 1)
    else if isD c = true then (2, runL isD r + 1)
    else if c = 39 then (if r[runL isQ r]? = some 39 then (3, runL isQ r + 2) else (0, 0))
    else if isBars (c :: r) = true then (4, 2)
    else if isS c = true then (4, 1)
    else (0, 0)
def nextV (s : ByteArray) (a : Nat) : Value :=
  if (tokL (s.data.toList.drop a)).1 = 0 then .agg #[.int .i64 0, .int .i64 0, .string ⟨#[]⟩]
  else .agg #[.int .i64 ((tokL (s.data.toList.drop a)).1 : Nat), .int .i64 (a : Int), .string (s.extract a (a + (tokL (s.data.toList.drop a)).2))]
theorem u8_39 (c : UInt8) : ((c.toNat : Int) == 39) = decide (c = 39) := by
  rw [Bool.eq_iff_iff]
  simp
  constructor
  · intro h; apply UInt8.toNat_inj.1; simp; omega
  · intro h; subst h; rfl
theorem next_any (s : ByteArray) (a : Nat) (w : World) (hs : s.size ≤ 2000) (ha : a < s.size) :
    Calls Tryz.prog 194 #[.string s, .int .i64 (a : Int)] w fun e w' => e = .returned (nextV s a) ∧ Below w.heap.size w w' := by
  have hd := drop_at s a ha
  have get : ∀ j, (h : j < s.size) → a + 1 ≤ j → (s.data.toList.drop (a + 1))[j - (a + 1)]? = some s[j] := by
    intro j h hj
    rw [List.getElem?_drop, show a + 1 + (j - (a + 1)) = j by omega, List.getElem?_eq_getElem (by simpa using h)]; rfl
  cases hL : isL s[a]
  case true =>
    have e : nextV s a = .agg #[.int .i64 1, .int .i64 (a : Int), .string (s.extract a (spanE isW s a))] := by
      have : spanE isW s a = a + (runL isW (s.data.toList.drop (a + 1)) + 1) := by
        rw [spanE_yes isW s a ha (by simp [isW, hL])]; unfold spanE; omega
      unfold nextV; rw [hd]; simp [tokL, hL, this]
    rw [e]; exact next_name s a w hs ha hL
  case false =>
  cases hD : isD s[a]
  case true =>
    have e : nextV s a = .agg #[.int .i64 2, .int .i64 (a : Int), .string (s.extract a (spanE isD s a))] := by
      have : spanE isD s a = a + (runL isD (s.data.toList.drop (a + 1)) + 1) := by
        rw [spanE_yes isD s a ha hD]; unfold spanE; omega
      unfold nextV; rw [hd]; simp [tokL, hL, hD, this]
    rw [e]; exact next_number s a w hs ha hL hD
  case false =>
  cases hQ : ((s[a].toNat : Int) == 39)
  case true =>
    have hq : s[a] = 39 := by rw [u8_39] at hQ; simpa using hQ
    have l39 : isL 39 = false := by decide
    have d39 : isD 39 = false := by decide
    have hsp : spanE isQ s (a + 1) = a + 1 + runL isQ (s.data.toList.drop (a + 1)) := rfl
    by_cases he : spanE isQ s (a + 1) < s.size
    · have hg := get _ he (spanE_ge isQ s (a + 1))
      rw [show spanE isQ s (a + 1) - (a + 1) = runL isQ (s.data.toList.drop (a + 1)) by omega] at hg
      cases hz : ((s[spanE isQ s (a + 1)].toNat : Int) == 39)
      case true =>
        have hz' : s[spanE isQ s (a + 1)] = 39 := by rw [u8_39] at hz; simpa using hz
        have e : nextV s a = .agg #[.int .i64 3, .int .i64 (a : Int), .string (s.extract a (spanE isQ s (a + 1) + 1))] := by
          have h2 : spanE isQ s (a + 1) + 1 = a + (runL isQ (s.data.toList.drop (a + 1)) + 2) := by omega
          unfold nextV; rw [hd]; simp only [tokL, l39, d39, hq, hg, hz', h2]; rfl
        rw [e]; exact next_text s a w hs ha hL hD hQ he hz
      case false =>
        have hz' : ¬ s[spanE isQ s (a + 1)] = 39 := by rw [u8_39] at hz; simpa using hz
        have e : nextV s a = .agg #[.int .i64 0, .int .i64 0, .string ⟨#[]⟩] := by
          unfold nextV; rw [hd]; simp only [tokL, l39, d39, hq, hg]; simp [hz']
        rw [e]; exact next_broken s a w hs ha hL hD hQ he hz
    · have hg : (s.data.toList.drop (a + 1))[runL isQ (s.data.toList.drop (a + 1))]? = none := by
        rw [List.getElem?_eq_none]; simp; omega
      have e : nextV s a = .agg #[.int .i64 0, .int .i64 0, .string ⟨#[]⟩] := by
        unfold nextV; rw [hd]; simp only [tokL, l39, d39, hq, hg]; simp
      rw [e]; exact next_open s a w hs ha hL hD hQ he
  case false =>
  have hq : ¬ s[a] = 39 := by rw [u8_39] at hQ; simpa using hQ
  cases hP : isBars (s.data.toList.drop a)
  case true =>
    have h2 : a + 2 ≤ s.size := by
      have := List.IsPrefix.length_le (List.isPrefixOf_iff_prefix.1 hP)
      simp at this; omega
    have e : nextV s a = .agg #[.int .i64 4, .int .i64 (a : Int), .string (s.extract a (a + 2))] := by
      rw [hd] at hP
      unfold nextV; rw [hd]; simp [tokL, hL, hD, hq, hP]
    rw [e]; exact next_bars s a w hs h2 hL hD hQ hP
  case false =>
  cases hS : isS s[a]
  case true =>
    have e : nextV s a = .agg #[.int .i64 4, .int .i64 (a : Int), .string (s.extract a (a + 1))] := by
      have hP' := hP
      rw [hd] at hP'
      unfold nextV; rw [hd]; simp [tokL, hL, hD, hq, hP', hS]
    rw [e]; exact next_sign s a w hs ha hL hD hQ hP hS
  case false =>
    have e : nextV s a = .agg #[.int .i64 0, .int .i64 0, .string ⟨#[]⟩] := by
      have hP' := hP
      rw [hd] at hP'
      unfold nextV; rw [hd]; simp [tokL, hL, hD, hq, hP', hS]
    rw [e]; exact next_none s a w hs ha hL hD hQ hP hS
theorem longest_1 (w : World) : Calls Tryz.prog 217 #[.int .i64 1] w fun e w' => e = .returned (.int .i64 12) ∧ w' = w := by
  go_enter Tryz.func217, Tryz.ntmps217
  go_wp2
  go_ret
  exact ⟨rfl, rfl⟩
theorem longest_2 (w : World) : Calls Tryz.prog 217 #[.int .i64 2] w fun e w' => e = .returned (.int .i64 9) ∧ w' = w := by
  go_enter Tryz.func217, Tryz.ntmps217
  go_wp2
  go_ret
  exact ⟨rfl, rfl⟩
theorem longest_3 (w : World) : Calls Tryz.prog 217 #[.int .i64 3] w fun e w' => e = .returned (.int .i64 22) ∧ w' = w := by
  go_enter Tryz.func217, Tryz.ntmps217
  go_wp2
  go_ret
  exact ⟨rfl, rfl⟩
theorem longest_4 (w : World) : Calls Tryz.prog 217 #[.int .i64 4] w fun e w' => e = .returned (.int .i64 2) ∧ w' = w := by
  go_enter Tryz.func217, Tryz.ntmps217
  go_wp2
  go_ret
  exact ⟨rfl, rfl⟩
theorem fault_0 (A : Int) (t : ByteArray) (w : World) :
    Calls Tryz.prog 195 #[.agg #[.int .i64 0, .int .i64 A, .string t]] w fun e w' => e = .returned (.int .i64 1) ∧ Below w.heap.size w w' := by
  go_enter Tryz.func195, Tryz.ntmps195
  go_wp2
  go_ret
  exact ⟨rfl, (Below.refl _ _).alloc (Nat.le_refl _) _⟩
theorem fault_1_many (A : Int) (t : ByteArray) (w : World) (hs : t.size ≤ 2000) (hl : 12 < t.size) :
    Calls Tryz.prog 195 #[.agg #[.int .i64 1, .int .i64 A, .string t]] w fun e w' => e = .returned (.int .i64 2) ∧ Below w.heap.size w w' := by
  go_enter Tryz.func195, Tryz.ntmps195
  go_wp2
  go_quiet ((go_at_call 217; exact Calls.quiet_of_same (longest_1 _)))
  go_wp2
  go_ret
  exact ⟨rfl, below_drewN ((Below.refl _ _).alloc (Nat.le_refl _) _) _⟩
theorem fault_1_ok (A : Int) (t : ByteArray) (w : World) (hs : t.size ≤ 2000) (hl : t.size ≤ 12) :
    Calls Tryz.prog 195 #[.agg #[.int .i64 1, .int .i64 A, .string t]] w fun e w' => e = .returned (.int .i64 0) ∧ Below w.heap.size w w' := by
  go_enter Tryz.func195, Tryz.ntmps195
  go_wp2
  go_quiet ((go_at_call 217; exact Calls.quiet_of_same (longest_1 _)))
  go_wp2
  go_ret
  exact ⟨rfl, below_drewN ((Below.refl _ _).alloc (Nat.le_refl _) _) _⟩
theorem fault_2_many (A : Int) (t : ByteArray) (w : World) (hs : t.size ≤ 2000) (hl : 9 < t.size) :
    Calls Tryz.prog 195 #[.agg #[.int .i64 2, .int .i64 A, .string t]] w fun e w' => e = .returned (.int .i64 2) ∧ Below w.heap.size w w' := by
  go_enter Tryz.func195, Tryz.ntmps195
  go_wp2
  go_quiet ((go_at_call 217; exact Calls.quiet_of_same (longest_2 _)))
  go_wp2
  go_ret
  exact ⟨rfl, below_drewN ((Below.refl _ _).alloc (Nat.le_refl _) _) _⟩
theorem fault_2_one (A : Int) (t : ByteArray) (w : World) (hs : t.size ≤ 2000) (hl : t.size ≤ 1) :
    Calls Tryz.prog 195 #[.agg #[.int .i64 2, .int .i64 A, .string t]] w fun e w' => e = .returned (.int .i64 0) ∧ Below w.heap.size w w' := by
  go_enter Tryz.func195, Tryz.ntmps195
  go_wp2
  go_quiet ((go_at_call 217; exact Calls.quiet_of_same (longest_2 _)))
  go_wp2
  go_ret
  exact ⟨rfl, below_drewN ((Below.refl _ _).alloc (Nat.le_refl _) _) _⟩
theorem fault_2_nought (A : Int) (t : ByteArray) (w : World) (hs : t.size ≤ 2000) (hl : t.size ≤ 9) (h1 : 1 < t.size) (hz : ((t[0].toNat : Int) == 48) = true) :
    Calls Tryz.prog 195 #[.agg #[.int .i64 2, .int .i64 A, .string t]] w fun e w' => e = .returned (.int .i64 1) ∧ Below w.heap.size w w' := by
  go_enter Tryz.func195, Tryz.ntmps195
  go_wp2
  go_quiet ((go_at_call 217; exact Calls.quiet_of_same (longest_2 _)))
  go_wp2
  go_ret
  exact ⟨rfl, below_drewN ((Below.refl _ _).alloc (Nat.le_refl _) _) _⟩
theorem fault_2_ok (A : Int) (t : ByteArray) (w : World) (hs : t.size ≤ 2000) (hl : t.size ≤ 9) (h1 : 1 < t.size) (hz : ((t[0].toNat : Int) == 48) = false) :
    Calls Tryz.prog 195 #[.agg #[.int .i64 2, .int .i64 A, .string t]] w fun e w' => e = .returned (.int .i64 0) ∧ Below w.heap.size w w' := by
  go_enter Tryz.func195, Tryz.ntmps195
  go_wp2
  go_quiet ((go_at_call 217; exact Calls.quiet_of_same (longest_2 _)))
  go_wp2
  go_ret
  exact ⟨rfl, below_drewN ((Below.refl _ _).alloc (Nat.le_refl _) _) _⟩
theorem fault_3_many (A : Int) (t : ByteArray) (w : World) (hs : t.size ≤ 2000) (hl : 22 < t.size) :
    Calls Tryz.prog 195 #[.agg #[.int .i64 3, .int .i64 A, .string t]] w fun e w' => e = .returned (.int .i64 2) ∧ Below w.heap.size w w' := by
  go_enter Tryz.func195, Tryz.ntmps195
  go_wp2
  go_quiet ((go_at_call 217; exact Calls.quiet_of_same (longest_3 _)))
  go_wp2
  go_ret
  exact ⟨rfl, below_drewN ((Below.refl _ _).alloc (Nat.le_refl _) _) _⟩
theorem fault_3_ok (A : Int) (t : ByteArray) (w : World) (hs : t.size ≤ 2000) (hl : t.size ≤ 22) :
    Calls Tryz.prog 195 #[.agg #[.int .i64 3, .int .i64 A, .string t]] w fun e w' => e = .returned (.int .i64 0) ∧ Below w.heap.size w w' := by
  go_enter Tryz.func195, Tryz.ntmps195
  go_wp2
  go_quiet ((go_at_call 217; exact Calls.quiet_of_same (longest_3 _)))
  go_wp2
  go_ret
  exact ⟨rfl, below_drewN ((Below.refl _ _).alloc (Nat.le_refl _) _) _⟩
theorem fault_4_ok (A : Int) (t : ByteArray) (w : World) (hs : t.size ≤ 2000) (hl : t.size ≤ 2) :
    Calls Tryz.prog 195 #[.agg #[.int .i64 4, .int .i64 A, .string t]] w fun e w' => e = .returned (.int .i64 0) ∧ Below w.heap.size w w' := by
  go_enter Tryz.func195, Tryz.ntmps195
  go_wp2
  go_quiet ((go_at_call 217; exact Calls.quiet_of_same (longest_4 _)))
  go_wp2
  go_ret
  exact ⟨rfl, below_drewN ((Below.refl _ _).alloc (Nat.le_refl _) _) _⟩
def wrongL (k : Nat) (l : List UInt8) : Nat :=
  if k = 0 then 1
  else if (k = 1 ∧ 12 < l.length) ∨ (k = 2 ∧ 9 < l.length) ∨ (k = 3 ∧ 22 < l.length) then 2
  else if k = 2 ∧ 1 < l.length ∧ l.head? = some 48 then 1
  else 0
structure Tk where
  k : Int
  a : Int
  t : List UInt8
def Tk.cells (x : Tk) : List Value := [.int .i64 x.k, .int .i64 x.a, .string ⟨x.t.toArray⟩]
def cellsT (l : List Tk) : List Value := l.flatMap Tk.cells
theorem cellsT_snoc (l : List Tk) (x : Tk) : cellsT (l ++ [x]) = cellsT l ++ x.cells := by simp [cellsT]
def scanGo : Nat → Nat → List UInt8 → List Tk → List Tk × Nat × Nat
  | 0, _, _, acc => (acc, 0, 0)
  | _ + 1, _, [], acc => (acc, 0, 0)
  | f + 1, a, c :: r, acc =>
    if isB c = true then scanGo f (a + 1) r acc
    else if wrongL (tokL (c :: r)).1 ((c :: r).take (tokL (c :: r)).2) = 0 then
      scanGo f (a + (tokL (c :: r)).2) ((c :: r).drop (tokL (c :: r)).2) (acc ++ [⟨((tokL (c :: r)).1 : Nat), (a : Nat), (c :: r).take (tokL (c :: r)).2⟩])
    else ([], a, wrongL (tokL (c :: r)).1 ((c :: r).take (tokL (c :: r)).2))
def scanL (a : Nat) (l : List UInt8) (acc : List Tk) : List Tk × Nat × Nat := scanGo (l.length + 1) a l acc
theorem tokL_pos (c : UInt8) (r : List UInt8) (h : (tokL (c :: r)).1 ≠ 0) : 1 ≤ (tokL (c :: r)).2 := by
  revert h
  rw [tokL]
  split
  · intro _; simp
  · split
    · intro _; simp
    · split
      · split
        · intro _; simp
        · intro h; exact absurd rfl h
      · split
        · intro _; simp
        · split
          · intro _; simp
          · intro h; exact absurd rfl h
theorem tokL_le (l : List UInt8) : (tokL l).2 ≤ l.length := by
  cases l with
  | nil => simp [tokL]
  | cons c r =>
    have h1 := runL_le isW r
    have h2 := runL_le isD r
    have h3 := runL_le isQ r
    rw [tokL]
    split
    · simp; omega
    · split
      · simp; omega
      · split
        · split
          · rename_i h
            have : runL isQ r < r.length := by
              rcases Nat.lt_or_ge (runL isQ r) r.length with g | g
              · exact g
              · rw [List.getElem?_eq_none g] at h; cases h
            simp; omega
          · simp
        · split
          · rename_i h
            have := List.IsPrefix.length_le (List.isPrefixOf_iff_prefix.1 h)
            simpa using this
          · split
            · simp
            · simp
theorem tokL_kind (l : List UInt8) : (tokL l).1 ≤ 4 ∧ ((tokL l).1 = 4 → (tokL l).2 ≤ 2) := by
  cases l with
  | nil => simp [tokL]
  | cons c r =>
    rw [tokL]
    split
    · simp
    · split
      · simp
      · split
        · split
          · simp
          · simp
        · split
          · simp
          · split
            · simp
            · simp
theorem wrongL_zero {k : Nat} {l : List UInt8} (h : wrongL k l = 0) : k ≠ 0 := by
  intro e; subst e; simp [wrongL] at h
theorem scanGo_fuel (f : Nat) : ∀ (g a : Nat) (l : List UInt8) (acc : List Tk), l.length < f → l.length < g → scanGo f a l acc = scanGo g a l acc := by
  induction f with
  | zero => intro g a l acc h; omega
  | succ f ih =>
    intro g a l acc hf hg
    cases g with
    | zero => omega
    | succ g =>
      cases l with
      | nil => rfl
      | cons c r =>
        simp only [List.length_cons] at hf hg
        unfold scanGo
        split
        · exact ih g (a + 1) r acc (by omega) (by omega)
        · split
          · rename_i h
            have := tokL_pos c r (wrongL_zero h)
            exact ih g _ _ _ (by simp only [List.length_drop, List.length_cons]; omega) (by simp only [List.length_drop, List.length_cons]; omega)
          · rfl
theorem scanL_nil (a : Nat) (acc : List Tk) : scanL a [] acc = (acc, 0, 0) := rfl
theorem scanL_blank (a : Nat) (c : UInt8) (r : List UInt8) (acc : List Tk) (h : isB c = true) : scanL a (c :: r) acc = scanL (a + 1) r acc := by
  unfold scanL; rw [scanGo, if_pos h]; rfl
theorem scanL_tok (a : Nat) (c : UInt8) (r : List UInt8) (acc : List Tk) (h : isB c = false) (hw : wrongL (tokL (c :: r)).1 ((c :: r).take (tokL (c :: r)).2) = 0) :
    scanL a (c :: r) acc = scanL (a + (tokL (c :: r)).2) ((c :: r).drop (tokL (c :: r)).2) (acc ++ [⟨((tokL (c :: r)).1 : Nat), (a : Nat), (c :: r).take (tokL (c :: r)).2⟩]) := by
  have := tokL_pos c r (wrongL_zero hw)
  unfold scanL; rw [scanGo, if_neg (by simp [h]), if_pos hw]
  exact scanGo_fuel _ _ _ _ _ (by simp only [List.length_drop, List.length_cons]; omega) (by omega)
theorem scanL_bad (a : Nat) (c : UInt8) (r : List UInt8) (acc : List Tk) (h : isB c = false) (hw : wrongL (tokL (c :: r)).1 ((c :: r).take (tokL (c :: r)).2) ≠ 0) :
    scanL a (c :: r) acc = ([], a, wrongL (tokL (c :: r)).1 ((c :: r).take (tokL (c :: r)).2)) := by
  unfold scanL; rw [scanGo, if_neg (by simp [h]), if_neg hw]
theorem scanL_blanks (l : List UInt8) : ∀ (a : Nat) (acc : List Tk), scanL a l acc = scanL (a + runL isB l) (l.drop (runL isB l)) acc := by
  induction l with
  | nil => intro a acc; rfl
  | cons c r ih =>
    intro a acc
    rw [runL_cons]
    split
    · rename_i h; rw [scanL_blank a c r acc h, ih (a + 1) acc, List.drop_succ_cons]; congr 1; omega
    · rfl
def scanS (s : List UInt8) : List Tk × Nat × Nat := if 2000 < s.length then ([], 0, 2) else scanL 0 s []
theorem fault_any (k : Nat) (A : Int) (t : ByteArray) (w : World) (hs : t.size ≤ 2000) (hk : k ≤ 4) (h4 : k = 4 → t.size ≤ 2) :
    Calls Tryz.prog 195 #[.agg #[.int .i64 (k : Int), .int .i64 A, .string t]] w fun e w' => e = .returned (.int .i64 (wrongL k t.data.toList : Nat)) ∧ Below w.heap.size w w' := by
  have hl : t.data.toList.length = t.size := by simp
  match k, hk, h4 with
  | 0, _, _ => exact fault_0 A t w
  | 1, _, _ =>
    by_cases h : 12 < t.size
    · rw [show wrongL 1 t.data.toList = 2 by simp [wrongL, h]]; exact fault_1_many A t w hs h
    · rw [show wrongL 1 t.data.toList = 0 by simp [wrongL]; omega]; exact fault_1_ok A t w hs (by omega)
  | 2, _, _ =>
    by_cases h : 9 < t.size
    · rw [show wrongL 2 t.data.toList = 2 by simp [wrongL, h]]; exact fault_2_many A t w hs h
    · by_cases h1 : 1 < t.size
      · have hh : t.data.toList.head? = some t[0] := by
          rw [List.head?_eq_getElem?, List.getElem?_eq_getElem (by simp; omega)]; rfl
        cases hz : ((t[0].toNat : Int) == 48)
        · have hz' : ¬ t[0] = 48 := by
            intro e; rw [e] at hz; revert hz; decide
          rw [show wrongL 2 t.data.toList = 0 by unfold wrongL; rw [hh]; simp [h, hz']]; exact fault_2_ok A t w hs (by omega) h1 hz
        · have hz' : t[0] = 48 := by
            apply UInt8.toNat_inj.1; have := eq_of_beq hz; simp; omega
          rw [show wrongL 2 t.data.toList = 1 by unfold wrongL; rw [hh]; simp [h, h1, hz']]; exact fault_2_nought A t w hs (by omega) h1 hz
      · rw [show wrongL 2 t.data.toList = 0 by simp [wrongL, h, h1]]; exact fault_2_one A t w hs (by omega)
  | 3, _, _ =>
    by_cases h : 22 < t.size
    · rw [show wrongL 3 t.data.toList = 2 by simp [wrongL, h]]; exact fault_3_many A t w hs h
    · rw [show wrongL 3 t.data.toList = 0 by simp [wrongL, h]]; exact fault_3_ok A t w hs (by omega)
  | 4, _, h4 => rw [show wrongL 4 t.data.toList = 0 by simp [wrongL]]; exact fault_4_ok A t w hs (h4 rfl)
theorem Tryz.info34 : (Tryz.prog.info? 160).map (fun i => (i.zero, i.size, i.bytes)) = some (some (.agg #[.int .i64 0, .int .i64 0, .string ⟨#[]⟩]), 3, 32) := by kernel_rfl
theorem scan_long (s : ByteArray) (w : World) (hs : 2000 < s.size) (hm : s.size ≤ 9223372036854775000) :
    Calls Tryz.prog 175 #[.string s] w fun e w' => e = .returned (.tuple #[.slice none 0 0, .int .i64 0, .int .i64 2]) ∧ w' = w := by
  go_enter Tryz.func175, Tryz.ntmps175
  go_wp2
  go_ret3
  exact ⟨rfl, rfl⟩
theorem scan_here (s : ByteArray) (k : Nat) (acc : List Tk) (K N : Nat) (h : k < s.size) (hp : tokL (s.data.toList.drop k) = (K, N)) (hB : isB s[k] = false) :
    (wrongL K ((s.data.toList.drop k).take N) = 0 → scanL k (s.data.toList.drop k) acc = scanL (k + N) (s.data.toList.drop (k + N)) (acc ++ [⟨(K : Nat), (k : Nat), (s.data.toList.drop k).take N⟩])) ∧
    (wrongL K ((s.data.toList.drop k).take N) ≠ 0 → scanL k (s.data.toList.drop k) acc = ([], k, wrongL K ((s.data.toList.drop k).take N))) := by
  have hd := drop_at s k h
  rw [hd] at hp ⊢
  constructor
  · intro hw
    have := scanL_tok k s[k] (s.data.toList.drop (k + 1)) acc hB (by rw [hp]; exact hw)
    rw [this, hp, ← hd, List.drop_drop]
  · intro hw
    have := scanL_bad k s[k] (s.data.toList.drop (k + 1)) acc hB (by rw [hp]; exact hw)
    rw [this, hp]
theorem scan_skip (s : ByteArray) (k : Nat) (acc : List Tk) : scanL k (s.data.toList.drop k) acc = scanL (spanE isB s k) (s.data.toList.drop (spanE isB s k)) acc := by
  rw [scanL_blanks, List.drop_drop]; rfl
theorem span_stops (p : UInt8 → Bool) (s : ByteArray) (k : Nat) (h : spanE p s k < s.size) : p s[spanE p s k] = false := by
  have hh : ∀ (l : List UInt8) (x : UInt8), l[runL p l]? = some x → p x = false := by
    intro l
    induction l with
    | nil => intro x h; simp at h
    | cons c r ih =>
      intro x h
      rw [runL_cons] at h
      by_cases hc : p c = true
      · rw [if_pos hc] at h; exact ih x (by simpa using h)
      · rw [if_neg hc] at h; simp at h; subst h; simpa using hc
  apply hh (s.data.toList.drop k)
  rw [List.getElem?_drop, List.getElem?_eq_getElem (by simpa [spanE] using h)]; rfl
theorem owns_below {w w' : World} {base : Nat} {e : TypeId} {size : Nat} {v : Value} {n : Nat} {xs : List Value} (h : w.ownsRow base e size v n xs) (hb : Below w.heap.size w w') : w'.ownsRow base e size v n xs :=
  h.kept (row := none) ⟨hb.os, hb.tape, hb.output, hb.size, fun k hk _ => hb.block k hk⟩ (by cases hv : v.ownBlock <;> simp)
theorem span_parts_at (s : ByteArray) (a : Nat) (i : Int) (w : World) (hi : i = (a : Int)) (hs : s.size ≤ 9223372036854775000) (ha : a ≤ s.size) :
    Calls Tryz.prog 192 #[.string s, .int .i64 i, .func (.func 193) #[] #[]] w fun e w' => e = .returned (.int .i64 (spanE isB s a : Nat)) ∧ w' = w := by
  subst hi; exact span_parts s a w hs ha
theorem cell_grown {w w' : World} {row : Option Nat} (hg : w.grownBy w' row) {b o : Nat} (hb : b < w.heap.size) (hr : some b ≠ row) : w'.cell? ⟨b, o, none⟩ = w.cell? ⟨b, o, none⟩ :=
  World.cell?_of_block (w := w) (hg.block b hb hr)
theorem cell_old {w : World} (o : Obj) {b i : Nat} (h : b < w.heap.size) : (w.alloc o).cell? ⟨b, i, none⟩ = w.cell? ⟨b, i, none⟩ :=
  ((Below.refl w.heap.size w).alloc (Nat.le_refl _) o).cell (p := ⟨b, i, none⟩) h
theorem scan_short (s : ByteArray) (w : World) (hs : s.size ≤ 2000) :
    Calls Tryz.prog 175 #[.string s] w fun e w' => ∃ v, e = .returned (.tuple #[v, .int .i64 ((scanL 0 s.data.toList []).2.1 : Nat), .int .i64 ((scanL 0 s.data.toList []).2.2 : Nat)]) ∧
      w'.ownsRow w.heap.size 160 3 v (scanL 0 s.data.toList []).1.length (cellsT (scanL 0 s.data.toList []).1) ∧ Below w.heap.size w w' := by
  obtain ⟨i0, hi, hz0, hz1, hz2⟩ := info_parts Tryz.info34
  have hbs : decide ((2000 : Int) < (s.size : Int)) = false := by simp; omega
  have hb0 := spanE_le isB s 0 (by omega)
  have hst := scan_skip s 0 []
  simp only [List.drop_zero] at hst
  have HS : Hid (scanL 0 s.data.toList [] = scanL (spanE isB s 0) (List.drop (spanE isB s 0) s.data.toList) []) := hst
  clear hst
  have HT : Hid (∀ h : spanE isB s 0 < s.size, isB s[spanE isB s 0] = false) := span_stops isB s 0
  go_enter Tryz.func175, Tryz.ntmps175
  go_wp2_with (go_at_call 192; refine (span_parts s 0 _ (by omega) (by omega)).mono ?_; rintro e w' ⟨rfl, hw'⟩; obtain rfl := hw'.symm; clear hw')
  go_loopw [5, 6] (fun v i wr => ∃ (k : Nat) (acc : List Tk), k ≤ s.size ∧ i = .int .i64 k ∧ wr.ownsRow w.heap.size 160 3 v acc.length (cellsT acc) ∧ Below w.heap.size w wr ∧ acc.length ≤ k ∧
      Hid (scanL k (s.data.toList.drop k) acc = scanL 0 s.data.toList []) ∧ Hid ((h : k < s.size) → isB s[k] = false)) (fun _ i _ => s.size - (intOf i).toNat)
  case atStart =>
    exact ⟨_, [], hb0, rfl, World.ownsRow_nil _ _ _ _, Below.refl _ _, Nat.zero_le _, HS.out.symm, HT⟩
  case round =>
    obtain ⟨k, acc, hk, rfl, hown, hnx, hacc, HE, HB⟩ := hrel
    clear HS HT hb0
    by_cases hlt : k < s.size
    · have hsz := hnx.size
      obtain ⟨K, N, hp⟩ : ∃ K N, tokL (s.data.toList.drop k) = (K, N) := ⟨_, _, rfl⟩
      have hk4 := (tokL_kind (s.data.toList.drop k)).1
      have hk5 := (tokL_kind (s.data.toList.drop k)).2
      have hnl := tokL_le (s.data.toList.drop k)
      have hn := next_any s k wr hs hlt
      obtain ⟨g0, g1⟩ := scan_here s k acc K N hlt hp (HB.out hlt)
      rw [HE.out] at g0 g1
      have hpos : K ≠ 0 → 1 ≤ N := by
        have := tokL_pos s[k] (s.data.toList.drop (k + 1))
        rw [← drop_at s k hlt, hp] at this; exact this
      rw [nextV, hp] at hn
      rw [hp] at hk4 hk5 hnl
      simp only [List.length_drop] at hnl hk4 hk5
      have hnl' : N ≤ s.size - k := by simpa using hnl
      clear hnl hp HB HE
      by_cases hK : K = 0
      · subst hK
        simp only [if_true] at hn
        have G := g1 (by simp [wrongL])
        have HG : Hid (scanL 0 s.data.toList [] = ([], k, 1)) := G.trans (by simp [wrongL])
        clear G g0 g1 hk5 hpos hk4 hnl'
        go_wp2_with (first | (go_at_call 194; refine hn.mono ?_; rintro e w1 ⟨rfl, hb1⟩) | (go_at_call 195; refine (fault_0 _ _ _).mono ?_; rintro e w2 ⟨rfl, hb2⟩))
        go_ret3
        refine ⟨.slice none 0 0, by rw [HG.out]; rfl, by rw [HG.out]; exact World.ownsRow_nil _ _ _ _, ?_⟩
        exact hnx.trans ((((hb1.mono hsz).alloc (by have := hb1.size; omega) _).trans (hb2.mono (by have := hb1.size; simp; omega))))
      · simp only [hK, if_false] at hn
        obtain ⟨T, hT⟩ : ∃ T, T = s.extract k (k + N) := ⟨_, rfl⟩
        have hTs : T.size = N := by rw [hT]; simp; omega
        have hTl : T.data.toList = (s.data.toList.drop k).take N := by rw [hT, Lib.extract_data]; congr 1; omega
        rw [← hT] at hn
        rw [← hTl] at g0 g1
        have hf := fun (A : Int) (W : World) => fault_any K A T W (by omega) hk4 (by omega)
        obtain ⟨E, hE⟩ : ∃ E, wrongL K T.data.toList = E := ⟨_, rfl⟩
        rw [hE] at g0 g1 hf
        have hN1 := hpos hK
        clear hE hT hTl hpos hk5 hK
        have HT : Hid (T.size = N) := hTs
        have hTs2 : T.size ≤ s.size - k := by omega
        have hTs1 : 1 ≤ T.size := by omega
        clear hTs
        by_cases hE0 : E = 0
        · subst hE0
          have g0' : Hid (scanL 0 s.data.toList [] = scanL (k + N) (s.data.toList.drop (k + N)) (acc ++ [⟨(K : Nat), (k : Nat), T.data.toList⟩])) := g0 rfl
          clear g0 g1
          go_wp2_with (first | (go_at_call 194; refine hn.mono ?_; rintro e w1 ⟨rfl, hb1⟩) | (go_at_call 195; refine (hf _ _).mono ?_; rintro e w2 ⟨rfl, hb2⟩; have c0 : w2.cell? ⟨w1.heap.size, 0, none⟩ = some (.int .i64 (K : Nat)) := (hb2.cell (by simp)).trans (by simp); have c1 : w2.cell? ⟨w1.heap.size, 1, none⟩ = some (.int .i64 (k : Nat)) := (hb2.cell (by simp)).trans (by simp); have c2 : w2.cell? ⟨w1.heap.size, 2, none⟩ = some (.string T) := (hb2.cell (by simp)).trans (by simp)) | (at_builtin; refine wpList_append_own _ rfl _ _ 161 rfl w.heap.size 160 i0 (.agg #[.int .i64 0, .int .i64 0, .string ⟨#[]⟩]) 3 32 Tryz.underlying161 hi hz0 hz1 hz2 rfl (by decide) _ _ _ rfl ((owns_below ((owns_below hown hb1).alloc _) hb2).alloc _) ⟨w2.heap.size, 0, none⟩ 1 1 [.int .i64 (K : Nat), .int .i64 (k : Nat), .string T] rfl rfl ?c1 ?c2 ?c3 ?c4 ?c5 ?_))
          case c1 =>
            intro j u hj
            match j, hj with
            | 0, hj => simp at hj; subst hj; simp [Addr.add]
            | 1, hj => simp at hj; subst hj; simp [Addr.add]
            | 2, hj => simp at hj; subst hj; simp [Addr.add]
          case c2 => intro u hu; simp at hu; rcases hu with rfl | rfl | rfl <;> rfl
          case c3 => unfold maxLen; omega
          case c4 => omega
          case c5 => have := hb1.size; have := hb2.size; simp at this ⊢; omega
          intro v' w3 hown' hgrow _
          have s1 := hb1.size
          have s2 : w1.heap.size + 1 ≤ w2.heap.size := by have := hb2.size; simpa using this
          have hlt5 := hown.lt
          have hc3 : w3.cell? ⟨w1.heap.size, 2, none⟩ = some (.string T) := (cell_grown hgrow (by simp; omega) (by intro e; have := (hlt5 _ e.symm).2; omega)).trans ((cell_old _ (by omega)).trans c2)
          have hB3 : Below w.heap.size w w3 := (((hnx.trans (((hb1.mono hsz).alloc (by omega) _).trans (hb2.mono (by simp; omega)))).alloc (by omega) _).grown hgrow (by simp; omega) (fun j hj => (hlt5 j hj).1))
          have hle := spanE_le isB s (k + N) (by omega)
          have hge := spanE_ge isB s (k + N)
          have R1 : Hid (scanL (spanE isB s (k + N)) (s.data.toList.drop (spanE isB s (k + N))) (acc ++ [⟨(K : Nat), (k : Nat), T.data.toList⟩]) = scanL 0 s.data.toList []) := ((g0'.out).trans (scan_skip s (k + N) _)).symm
          have R2 : Hid (∀ h : spanE isB s (k + N) < s.size, isB s[spanE isB s (k + N)] = false) := span_stops isB s (k + N)
          have R3 : w3.ownsRow w.heap.size 160 3 v' (acc ++ [(⟨(K : Nat), (k : Nat), T.data.toList⟩ : Tk)]).length (cellsT (acc ++ [⟨(K : Nat), (k : Nat), T.data.toList⟩])) := by
            rw [cellsT_snoc, List.length_append]; exact hown'
          clear hown' hgrow hown g0' c0 c1 c2 hb1 hb2 hn hf hlt5
          go_wp2_with (go_at_call 192; refine (span_parts_at s (k + N) _ _ (by have := HT.out; omega) (by omega) (by omega)).mono ?_; rintro e w' ⟨rfl, hw'⟩; obtain rfl := hw'.symm; clear hw')
          go_roundw
          case rel => exact ⟨spanE isB s (k + N), _, hle, rfl, R3, hB3, by simp; omega, R1, R2⟩
          case measure => simp [intOf]; omega
        · have hEb : ((E : Int) != 0) = true := by simp; omega
          have HG : Hid (scanL 0 s.data.toList [] = ([], k, E)) := g1 hE0
          clear g0 g1 hE0
          go_wp2_with (first | (go_at_call 194; refine hn.mono ?_; rintro e w1 ⟨rfl, hb1⟩) | (go_at_call 195; refine (hf _ _).mono ?_; rintro e w2 ⟨rfl, hb2⟩))
          go_ret3
          refine ⟨.slice none 0 0, by rw [HG.out]; rfl, by rw [HG.out]; exact World.ownsRow_nil _ _ _ _, ?_⟩
          exact hnx.trans ((((hb1.mono hsz).alloc (by have := hb1.size; omega) _).trans (hb2.mono (by have := hb1.size; simp; omega))))
    · have hks : k = s.size := by omega
      have hd : s.data.toList.drop k = [] := List.drop_eq_nil_of_le (by simp; omega)
      have HG : Hid (scanL 0 s.data.toList [] = (acc, 0, 0)) := by rw [← HE.out, hd]; rfl
      clear hd hks HE HB
      go_wp2
      go_ret3
      exact ⟨_, by rw [HG.out]; rfl, by rw [HG.out]; exact hown, hnx⟩
end Go.Proofs.YtcnnjladaoaeiaaGreatDoor
