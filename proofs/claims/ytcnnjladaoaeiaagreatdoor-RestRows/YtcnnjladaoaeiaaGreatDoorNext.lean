/-
  'next' of package token.
-/
import Derived.Test.YtcnnjladaoaeiaaGreatDoorSpan
import Derived.Test.YtcnnjladaoaeiaaGreatDoorShelf
namespace Go.Proofs.YtcnnjladaoaeiaaGreatDoor
open Go.RowKit

theorem isL_rw {c : UInt8} {b : Bool} (h : isL c = b) (w : World) : Calls Tryz.prog 212 #[.int .u8 (c.toNat : Int)] w fun e w' => e = .returned (.bool b) ∧ w' = w := by
  rw [← h]; exact letter_any c w
theorem isD_rw {c : UInt8} {b : Bool} (h : isD c = b) (w : World) : Calls Tryz.prog 214 #[.int .u8 (c.toNat : Int)] w fun e w' => e = .returned (.bool b) ∧ w' = w := by
  rw [← h]; exact digit_any c w
theorem span_quot_at (s : ByteArray) (a : Nat) (i : Int) (w : World) (hi : i = (a : Int)) (hs : s.size ≤ 9223372036854775000) (ha : a ≤ s.size) :
    Calls Tryz.prog 192 #[.string s, .int .i64 i, .func (.func 215) #[] #[]] w fun e w' => e = .returned (.int .i64 (spanE isQ s a : Nat)) ∧ w' = w := by
  subst hi; exact span_quot s a w hs ha

set_option maxHeartbeats 400000 in
theorem next_name (s : ByteArray) (a : Nat) (w : World) (hs : s.size ≤ 2000) (ha : a < s.size) (hc : isL s[a] = true) :
    Calls Tryz.prog 194 #[.string s, .int .i64 (a : Int)] w fun e w' => e = .returned (.agg #[.int .i64 1, .int .i64 (a : Int), .string (s.extract a (spanE isW s a))]) ∧ Below w.heap.size w w' := by
  have h1 := isL_rw hc
  have h2 := spanE_le isW s a (by omega)
  have h3 := spanE_ge isW s a
  clear hc
  go_enter Tryz.func194, Tryz.ntmps194
  go_wp2_with (first | (go_at_call 212; refine (h1 _).mono ?_; rintro e w' ⟨rfl, rfl⟩) | (go_at_call 192; refine (span_word _ _ _ (by omega) (by omega)).mono ?_; rintro e w' ⟨rfl, rfl⟩))
  exact bodyPost_ret (v := .agg #[.int .i64 1, .int .i64 (a : Int), .string (s.extract a (spanE isW s a))]) (by simp [results, Tryz.results194, go_sem]) rfl ⟨rfl, (Below.refl _ _).alloc (Nat.le_refl _) _⟩

set_option maxHeartbeats 400000 in
theorem next_number (s : ByteArray) (a : Nat) (w : World) (hs : s.size ≤ 2000) (ha : a < s.size) (hc : isL s[a] = false) (hd : isD s[a] = true) :
    Calls Tryz.prog 194 #[.string s, .int .i64 (a : Int)] w fun e w' => e = .returned (.agg #[.int .i64 2, .int .i64 (a : Int), .string (s.extract a (spanE isD s a))]) ∧ Below w.heap.size w w' := by
  have h1 := isL_rw hc
  have h1b := isD_rw hd
  have h2 := spanE_le isD s a (by omega)
  have h3 := spanE_ge isD s a
  clear hc hd
  go_enter Tryz.func194, Tryz.ntmps194
  go_wp2_with (first | (go_at_call 212; refine (h1 _).mono ?_; rintro e w' ⟨rfl, rfl⟩) | (go_at_call 214; refine (h1b _).mono ?_; rintro e w' ⟨rfl, rfl⟩) | (go_at_call 192; refine (span_digit _ _ _ (by omega) (by omega)).mono ?_; rintro e w' ⟨rfl, rfl⟩))
  exact bodyPost_ret (v := .agg #[.int .i64 2, .int .i64 (a : Int), .string (s.extract a (spanE isD s a))]) (by simp [results, Tryz.results194, go_sem]) rfl ⟨rfl, (Below.refl _ _).alloc (Nat.le_refl _) _⟩

set_option maxHeartbeats 400000 in
theorem next_text (s : ByteArray) (a : Nat) (w : World) (hs : s.size ≤ 2000) (ha : a < s.size) (hc : isL s[a] = false) (hd : isD s[a] = false) (hq : ((s[a].toNat : Int) == 39) = true)
    (he : spanE isQ s (a + 1) < s.size) (hz : ((s[spanE isQ s (a + 1)].toNat : Int) == 39) = true) :
    Calls Tryz.prog 194 #[.string s, .int .i64 (a : Int)] w fun e w' => e = .returned (.agg #[.int .i64 3, .int .i64 (a : Int), .string (s.extract a (spanE isQ s (a + 1) + 1))]) ∧ Below w.heap.size w w' := by
  have h1 := isL_rw hc
  have h1b := isD_rw hd
  have h3 := spanE_ge isQ s (a + 1)
  clear hc hd
  go_enter Tryz.func194, Tryz.ntmps194
  go_wp2_with (first | (go_at_call 212; refine (h1 _).mono ?_; rintro e w' ⟨rfl, rfl⟩) | (go_at_call 214; refine (h1b _).mono ?_; rintro e w' ⟨rfl, rfl⟩) | (go_at_call 192; refine (span_quot_at s (a + 1) _ _ (by omega) (by omega) (by omega)).mono ?_; rintro e w' ⟨rfl, rfl⟩))
  exact bodyPost_ret (v := .agg #[.int .i64 3, .int .i64 (a : Int), .string (s.extract a (spanE isQ s (a + 1) + 1))]) (by simp [results, Tryz.results194, go_sem]) rfl ⟨rfl, (Below.refl _ _).alloc (Nat.le_refl _) _⟩

set_option maxHeartbeats 400000 in
theorem next_open (s : ByteArray) (a : Nat) (w : World) (hs : s.size ≤ 2000) (ha : a < s.size) (hc : isL s[a] = false) (hd : isD s[a] = false) (hq : ((s[a].toNat : Int) == 39) = true)
    (he : ¬ spanE isQ s (a + 1) < s.size) :
    Calls Tryz.prog 194 #[.string s, .int .i64 (a : Int)] w fun e w' => e = .returned (.agg #[.int .i64 0, .int .i64 0, .string ⟨#[]⟩]) ∧ Below w.heap.size w w' := by
  have h1 := isL_rw hc
  have h1b := isD_rw hd
  have h3 := spanE_ge isQ s (a + 1)
  clear hc hd
  go_enter Tryz.func194, Tryz.ntmps194
  go_wp2_with (first | (go_at_call 212; refine (h1 _).mono ?_; rintro e w' ⟨rfl, rfl⟩) | (go_at_call 214; refine (h1b _).mono ?_; rintro e w' ⟨rfl, rfl⟩) | (go_at_call 192; refine (span_quot_at s (a + 1) _ _ (by omega) (by omega) (by omega)).mono ?_; rintro e w' ⟨rfl, rfl⟩))
  exact bodyPost_ret (v := .agg #[.int .i64 0, .int .i64 0, .string ⟨#[]⟩]) (by simp [results, Tryz.results194, go_sem]) rfl ⟨rfl, (Below.refl _ _).alloc (Nat.le_refl _) _⟩

set_option maxHeartbeats 400000 in
theorem next_broken (s : ByteArray) (a : Nat) (w : World) (hs : s.size ≤ 2000) (ha : a < s.size) (hc : isL s[a] = false) (hd : isD s[a] = false) (hq : ((s[a].toNat : Int) == 39) = true)
    (he : spanE isQ s (a + 1) < s.size) (hz : ((s[spanE isQ s (a + 1)].toNat : Int) == 39) = false) :
    Calls Tryz.prog 194 #[.string s, .int .i64 (a : Int)] w fun e w' => e = .returned (.agg #[.int .i64 0, .int .i64 0, .string ⟨#[]⟩]) ∧ Below w.heap.size w w' := by
  have h1 := isL_rw hc
  have h1b := isD_rw hd
  have h3 := spanE_ge isQ s (a + 1)
  clear hc hd
  go_enter Tryz.func194, Tryz.ntmps194
  go_wp2_with (first | (go_at_call 212; refine (h1 _).mono ?_; rintro e w' ⟨rfl, rfl⟩) | (go_at_call 214; refine (h1b _).mono ?_; rintro e w' ⟨rfl, rfl⟩) | (go_at_call 192; refine (span_quot_at s (a + 1) _ _ (by omega) (by omega) (by omega)).mono ?_; rintro e w' ⟨rfl, rfl⟩))
  exact bodyPost_ret (v := .agg #[.int .i64 0, .int .i64 0, .string ⟨#[]⟩]) (by simp [results, Tryz.results194, go_sem]) rfl ⟨rfl, (Below.refl _ _).alloc (Nat.le_refl _) _⟩

/-- two bars at the head? -/
def isBars (l : List UInt8) : Bool := Lib.hasPrefix l [124, 124]
/-- one of the signs? -/
def isS (c : UInt8) : Bool := decide (c ∈ ([40, 41, 44, 59, 42, 61, 60, 43, 45] : List UInt8))

theorem extract_end (s : ByteArray) (a : Nat) : (s.extract a s.size).data.toList = s.data.toList.drop a := by
  rw [Lib.extract_data, List.take_of_length_le]
  simp

theorem hasPrefix_rw (s : ByteArray) (a : Nat) {b : Bool} (h : isBars (s.data.toList.drop a) = b) (w : World) :
    Calls Tryz.prog 203 #[.string (s.extract a s.size), .string ⟨#[124, 124]⟩] w fun e w' => e = .returned (.bool b) ∧ w' = w := by
  have := Tryz.strings_HasPrefix (s.extract a s.size) ⟨#[124, 124]⟩ w
  rw [extract_end] at this
  rw [← h]; exact this

theorem indexByte_mem (l : List UInt8) (c : UInt8) : 0 ≤ Lib.indexByte l c ↔ c ∈ l := by
  induction l with
  | nil => simp [Lib.indexByte]
  | cons b l ih =>
    have g := Lib.indexByte_ge l c
    unfold Lib.indexByte
    by_cases h : b = c
    · subst h; simp
    · have h' : ¬ c = b := fun e => h e.symm
      rw [if_neg (by simpa using h)]
      by_cases h2 : Lib.indexByte l c = -1
      · rw [if_pos (by simpa using h2)]
        have : ¬ c ∈ l := fun m => by have := ih.2 m; omega
        simp [h', this]
      · rw [if_neg (by simpa using h2)]
        have : c ∈ l := ih.1 (by omega)
        simp [this]; omega

theorem indexByte_rw (c : UInt8) (w : World) :
    Calls Tryz.prog 216 #[.string ⟨#[40, 41, 44, 59, 42, 61, 60, 43, 45]⟩, .int .u8 (c.toNat : Int)] w fun e w' => (∃ n : Int, e = .returned (.int .i64 n) ∧ (0 ≤ n ↔ isS c = true)) ∧ w' = w := by
  refine (Tryz.strings_IndexByte _ _ _).mono ?_
  rintro e w' ⟨rfl, rfl⟩
  refine ⟨⟨_, rfl, ?_⟩, rfl⟩
  rw [indexByte_mem]
  simp [isS]

set_option maxHeartbeats 400000 in
theorem next_bars (s : ByteArray) (a : Nat) (w : World) (hs : s.size ≤ 2000) (ha : a + 2 ≤ s.size) (hc : isL s[a] = false) (hd : isD s[a] = false) (hq : ((s[a].toNat : Int) == 39) = false)
    (hp : isBars (s.data.toList.drop a) = true) :
    Calls Tryz.prog 194 #[.string s, .int .i64 (a : Int)] w fun e w' => e = .returned (.agg #[.int .i64 4, .int .i64 (a : Int), .string (s.extract a (a + 2))]) ∧ Below w.heap.size w w' := by
  have h1 := isL_rw hc
  have h1b := isD_rw hd
  have h2 := hasPrefix_rw s a hp
  clear hc hd hp
  go_enter Tryz.func194, Tryz.ntmps194
  go_wp2_with (first | (go_at_call 212; refine (h1 _).mono ?_; rintro e w' ⟨rfl, rfl⟩) | (go_at_call 214; refine (h1b _).mono ?_; rintro e w' ⟨rfl, rfl⟩) | (go_at_call 203; refine (h2 _).mono ?_; rintro e w' ⟨rfl, rfl⟩))
  exact bodyPost_ret (v := .agg #[.int .i64 4, .int .i64 (a : Int), .string (s.extract a (a + 2))]) (by simp [results, Tryz.results194, go_sem]) rfl ⟨rfl, (Below.refl _ _).alloc (Nat.le_refl _) _⟩

set_option maxHeartbeats 400000 in
theorem next_sign (s : ByteArray) (a : Nat) (w : World) (hs : s.size ≤ 2000) (ha : a < s.size) (hc : isL s[a] = false) (hd : isD s[a] = false) (hq : ((s[a].toNat : Int) == 39) = false)
    (hp : isBars (s.data.toList.drop a) = false) (hg : isS s[a] = true) :
    Calls Tryz.prog 194 #[.string s, .int .i64 (a : Int)] w fun e w' => e = .returned (.agg #[.int .i64 4, .int .i64 (a : Int), .string (s.extract a (a + 1))]) ∧ Below w.heap.size w w' := by
  have h1 := isL_rw hc
  have h1b := isD_rw hd
  have h2 := hasPrefix_rw s a hp
  have HG : Hid (isS s[a] = true) := hg
  clear hc hd hp hg
  go_enter Tryz.func194, Tryz.ntmps194
  go_wp2_with (first | (go_at_call 212; refine (h1 _).mono ?_; rintro e w' ⟨rfl, rfl⟩) | (go_at_call 214; refine (h1b _).mono ?_; rintro e w' ⟨rfl, rfl⟩) | (go_at_call 203; refine (h2 _).mono ?_; rintro e w' ⟨rfl, rfl⟩) | (go_at_call 216; refine (indexByte_rw _ _).mono ?_; rintro e w' ⟨⟨n, rfl, hn⟩, rfl⟩; replace hn := hn.2 HG.out))
  exact bodyPost_ret (v := .agg #[.int .i64 4, .int .i64 (a : Int), .string (s.extract a (a + 1))]) (by simp [results, Tryz.results194, go_sem]) rfl ⟨rfl, (Below.refl _ _).alloc (Nat.le_refl _) _⟩

set_option maxHeartbeats 400000 in
theorem next_none (s : ByteArray) (a : Nat) (w : World) (_hs : s.size ≤ 2000) (ha : a < s.size) (hc : isL s[a] = false) (hd : isD s[a] = false) (hq : ((s[a].toNat : Int) == 39) = false)
    (hp : isBars (s.data.toList.drop a) = false) (hg : isS s[a] = false) :
    Calls Tryz.prog 194 #[.string s, .int .i64 (a : Int)] w fun e w' => e = .returned (.agg #[.int .i64 0, .int .i64 0, .string ⟨#[]⟩]) ∧ Below w.heap.size w w' := by
  have h1 := isL_rw hc
  have h1b := isD_rw hd
  have h2 := hasPrefix_rw s a hp
  have HG : Hid (isS s[a] = false) := hg
  clear hc hd hp hg
  go_enter Tryz.func194, Tryz.ntmps194
  go_wp2_with (first | (go_at_call 212; refine (h1 _).mono ?_; rintro e w' ⟨rfl, rfl⟩) | (go_at_call 214; refine (h1b _).mono ?_; rintro e w' ⟨rfl, rfl⟩) | (go_at_call 203; refine (h2 _).mono ?_; rintro e w' ⟨rfl, rfl⟩) | (go_at_call 216; refine (indexByte_rw _ _).mono ?_; rintro e w' ⟨⟨n, rfl, hn⟩, rfl⟩; replace hn : n < 0 := by (have hx := HG.out; rcases Int.lt_or_le n 0 with h | h; exact h; rw [hn.1 h] at hx; cases hx)))
  exact bodyPost_ret (v := .agg #[.int .i64 0, .int .i64 0, .string ⟨#[]⟩]) (by simp [results, Tryz.results194, go_sem]) rfl ⟨rfl, (Below.refl _ _).alloc (Nat.le_refl _) _⟩

/-- THE TOKEN AT THE HEAD of a list of bytes: its kind (0: none) and how many bytes it has. -/
def tokL : List UInt8 → Nat × Nat
  | [] => (0, 0)
  | c :: r =>
    if isL c = true then (1, runL isW r + 1)
    else if isD c = true then (2, runL isD r + 1)
    else if c = 39 then (if r[runL isQ r]? = some 39 then (3, runL isQ r + 2) else (0, 0))
    else if isBars (c :: r) = true then (4, 2)
    else if isS c = true then (4, 1)
    else (0, 0)

/-- what 'next' answers -/
def nextV (s : ByteArray) (a : Nat) : Value :=
  if (tokL (s.data.toList.drop a)).1 = 0 then .agg #[.int .i64 0, .int .i64 0, .string ⟨#[]⟩]
  else .agg #[.int .i64 ((tokL (s.data.toList.drop a)).1 : Nat), .int .i64 (a : Int), .string (s.extract a (a + (tokL (s.data.toList.drop a)).2))]

theorem u8_39 (c : UInt8) : ((c.toNat : Int) == 39) = decide (c = 39) := by
  rw [Bool.eq_iff_iff]
  simp
  constructor
  · intro h; apply UInt8.toNat_inj.1; simp; omega
  · intro h; subst h; rfl

theorem next_any (s : ByteArray) (a : Nat) (w : World) (hs : s.size ≤ 2000) (ha : a < s.size) :
    Calls Tryz.prog 194 #[.string s, .int .i64 (a : Int)] w fun e w' => e = .returned (nextV s a) ∧ Below w.heap.size w w' := by
  have hd := drop_at s a ha
  have get : ∀ j, (h : j < s.size) → a + 1 ≤ j → (s.data.toList.drop (a + 1))[j - (a + 1)]? = some s[j] := by
    intro j h hj
    rw [List.getElem?_drop, show a + 1 + (j - (a + 1)) = j by omega, List.getElem?_eq_getElem (by simpa using h)]; rfl
  cases hL : isL s[a]
  case true =>
    have e : nextV s a = .agg #[.int .i64 1, .int .i64 (a : Int), .string (s.extract a (spanE isW s a))] := by
      have : spanE isW s a = a + (runL isW (s.data.toList.drop (a + 1)) + 1) := by
        rw [spanE_yes isW s a ha (by simp [isW, hL])]; unfold spanE; omega
      unfold nextV; rw [hd]; simp [tokL, hL, this]
    rw [e]; exact next_name s a w hs ha hL
  case false =>
  cases hD : isD s[a]
  case true =>
    have e : nextV s a = .agg #[.int .i64 2, .int .i64 (a : Int), .string (s.extract a (spanE isD s a))] := by
      have : spanE isD s a = a + (runL isD (s.data.toList.drop (a + 1)) + 1) := by
        rw [spanE_yes isD s a ha hD]; unfold spanE; omega
      unfold nextV; rw [hd]; simp [tokL, hL, hD, this]
    rw [e]; exact next_number s a w hs ha hL hD
  case false =>
  cases hQ : ((s[a].toNat : Int) == 39)
  case true =>
    have hq : s[a] = 39 := by rw [u8_39] at hQ; simpa using hQ
    have l39 : isL 39 = false := by decide
    have d39 : isD 39 = false := by decide
    have hsp : spanE isQ s (a + 1) = a + 1 + runL isQ (s.data.toList.drop (a + 1)) := rfl
    by_cases he : spanE isQ s (a + 1) < s.size
    · have hg := get _ he (spanE_ge isQ s (a + 1))
      rw [show spanE isQ s (a + 1) - (a + 1) = runL isQ (s.data.toList.drop (a + 1)) by omega] at hg
      cases hz : ((s[spanE isQ s (a + 1)].toNat : Int) == 39)
      case true =>
        have hz' : s[spanE isQ s (a + 1)] = 39 := by rw [u8_39] at hz; simpa using hz
        have e : nextV s a = .agg #[.int .i64 3, .int .i64 (a : Int), .string (s.extract a (spanE isQ s (a + 1) + 1))] := by
          have h2 : spanE isQ s (a + 1) + 1 = a + (runL isQ (s.data.toList.drop (a + 1)) + 2) := by omega
          unfold nextV; rw [hd]; simp only [tokL, l39, d39, hq, hg, hz', h2]; rfl
        rw [e]; exact next_text s a w hs ha hL hD hQ he hz
      case false =>
        have hz' : ¬ s[spanE isQ s (a + 1)] = 39 := by rw [u8_39] at hz; simpa using hz
        have e : nextV s a = .agg #[.int .i64 0, .int .i64 0, .string ⟨#[]⟩] := by
          unfold nextV; rw [hd]; simp only [tokL, l39, d39, hq, hg]; simp [hz']
        rw [e]; exact next_broken s a w hs ha hL hD hQ he hz
    · have hg : (s.data.toList.drop (a + 1))[runL isQ (s.data.toList.drop (a + 1))]? = none := by
        rw [List.getElem?_eq_none]; simp; omega
      have e : nextV s a = .agg #[.int .i64 0, .int .i64 0, .string ⟨#[]⟩] := by
        unfold nextV; rw [hd]; simp only [tokL, l39, d39, hq, hg]; simp
      rw [e]; exact next_open s a w hs ha hL hD hQ he
  case false =>
  have hq : ¬ s[a] = 39 := by rw [u8_39] at hQ; simpa using hQ
  cases hP : isBars (s.data.toList.drop a)
  case true =>
    have h2 : a + 2 ≤ s.size := by
      have := List.IsPrefix.length_le (List.isPrefixOf_iff_prefix.1 hP)
      simp at this; omega
    have e : nextV s a = .agg #[.int .i64 4, .int .i64 (a : Int), .string (s.extract a (a + 2))] := by
      rw [hd] at hP
      unfold nextV; rw [hd]; simp [tokL, hL, hD, hq, hP]
    rw [e]; exact next_bars s a w hs h2 hL hD hQ hP
  case false =>
  cases hS : isS s[a]
  case true =>
    have e : nextV s a = .agg #[.int .i64 4, .int .i64 (a : Int), .string (s.extract a (a + 1))] := by
      have hP' := hP
      rw [hd] at hP'
      unfold nextV; rw [hd]; simp [tokL, hL, hD, hq, hP', hS]
    rw [e]; exact next_sign s a w hs ha hL hD hQ hP hS
  case false =>
    have e : nextV s a = .agg #[.int .i64 0, .int .i64 0, .string ⟨#[]⟩] := by
      have hP' := hP
      rw [hd] at hP'
      unfold nextV; rw [hd]; simp [tokL, hL, hD, hq, hP', hS]
    rw [e]; exact next_none s a w hs ha hL hD hQ hP hS

end Go.Proofs.YtcnnjladaoaeiaaGreatDoor
