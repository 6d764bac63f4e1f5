/-
  The law 'ValueTells': more of its cases.
-/
import Derived.Test.YtpigdmnpnceohaaDoorTellsA
namespace Go.Proofs.YtpigdmnpnceohaaDoor
open Go.RowKit

set_option maxRecDepth 100000 in
set_option maxHeartbeats 3200000 in
theorem tl_low (K N K' N' tt : Int) (s s' : ByteArray) (w : World) (n : Int) (k : ByteArray) (ht : tt < 1)
    (ho : ∀ W : World, Calls Tryd.prog 5 #[.agg #[.int .i64 K, .int .i64 N, .string s], .agg #[.int .i64 K', .int .i64 N', .string s']] W fun e w' => e = .returned (.tuple #[.int .i64 n, .int .i64 0]) ∧ Below W.heap.size W w')
    (hc : ∀ W : World, Below w.heap.size w W → Calls Tryd.prog 6 #[.agg #[.int .i64 K, .int .i64 N, .string s], .int .i64 tt] W fun e w' => e = .returned (.tuple #[.agg #[.int .i64 0, .int .i64 0, .string ⟨#[]⟩], .int .i64 7]) ∧ Below W.heap.size W w')
    (hk : ∀ W : World, Below w.heap.size w W → Calls Tryd.prog 7 #[.agg #[.int .i64 K, .int .i64 N, .string s]] W fun e w' => e = .returned (.tuple #[.string k, .int .i64 0]) ∧ Below W.heap.size W w')
    (hv : ∀ W : World, Calls Tryd.prog 8 #[.agg #[.int .i64 K, .int .i64 N, .string s]] W fun e w' => e = .returned (.int .i64 0) ∧ Below W.heap.size W w')
    (hv' : ∀ W : World, Calls Tryd.prog 8 #[.agg #[.int .i64 K', .int .i64 N', .string s']] W fun e w' => e = .returned (.int .i64 0) ∧ Below W.heap.size W w')
    (hko : ∀ W : World, Calls Tryd.prog 9 #[.agg #[.int .i64 K, .int .i64 N, .string s]] W fun e w' => e = .returned (.string k) ∧ Below W.heap.size W w')
    (hoo : ∀ W : World, Calls Tryd.prog 10 #[.agg #[.int .i64 K, .int .i64 N, .string s], .agg #[.int .i64 K', .int .i64 N', .string s']] W fun e w' => e = .returned (.int .i64 n) ∧ Below W.heap.size W w')
    (hbg : ∀ W : World, Below w.heap.size w W → Calls Tryd.prog 12 #[] W fun e w' => e = .returned (.bool true) ∧ Below W.heap.size W w')
    (hch : ∀ W : World, Calls Tryd.prog 13 #[.agg #[.int .i64 K, .int .i64 N, .string s]] W fun e w' => e = .returned (.int .i64 0) ∧ Below W.heap.size W w') :
    Calls Tryd.prog 3 #[.agg #[.int .i64 K, .int .i64 N, .string s], .agg #[.int .i64 K', .int .i64 N', .string s'], .int .i64 tt] w fun e w' => e = .returned (.bool true) ∧ Below w.heap.size w w' := by
  have a0 : Hid (Has ((w.alloc (.cells #[.int .i64 K, .int .i64 N, .string s] 23)).alloc (.cells #[.int .i64 K', .int .i64 N', .string s'] 23)) w.heap.size (.int .i64 K) (.int .i64 N) (.string s)) := (Two.start w K N s K' N' s').1
  have b0 : Hid (Has ((w.alloc (.cells #[.int .i64 K, .int .i64 N, .string s] 23)).alloc (.cells #[.int .i64 K', .int .i64 N', .string s'] 23)) (w.heap.size + 1) (.int .i64 K') (.int .i64 N') (.string s')) := (Two.start w K N s K' N' s').2.1
  have q0 : Hid (Below w.heap.size w ((w.alloc (.cells #[.int .i64 K, .int .i64 N, .string s] 23)).alloc (.cells #[.int .i64 K', .int .i64 N', .string s'] 23))) := (Two.start w K N s K' N' s').2.2.1
  have hsm := same_any
  go_enter Tryd.func3, Tryd.ntmps3
  go_wp2_with fail
  refine (ho _).mono ?_
  rintro e w1 ⟨rfl, hb⟩
  have a := a0.out.call hb
  have b := b0.out.call hb
  have q := below_call q0.out hb
  clear a0 b0 q0 hb ho
  obtain ⟨⟨a0, a1, a2⟩, af0, af1, af2⟩ := three a
  have az := a.lt
  have aH := hide a
  have bH := hide b
  have qH := hide q
  clear a b q
  go_wp2_with fail
  refine (hc _ qH.out).mono ?_
  rintro e w2 ⟨rfl, hb⟩
  have a := aH.out.call hb
  have b := bH.out.call hb
  have q := below_call qH.out hb
  clear aH bH qH hb hc a0 a1 a2 af0 af1 af2 az
  obtain ⟨⟨a0, a1, a2⟩, af0, af1, af2⟩ := three a
  have az := a.lt
  have aH := hide a
  have bH := hide b
  have qH := hide q
  clear a b q
  go_wp2_with fail
  refine (hk _ (below_alloc qH.out _)).mono ?_
  rintro e w3 ⟨rfl, hb⟩
  have a := (aH.out.alloc _).call hb
  have b := (bH.out.alloc _).call hb
  have v := (Has.new w2 _ _ _).call hb
  have q := below_call (below_alloc qH.out _) hb
  clear aH bH qH hb hk a0 a1 a2 af0 af1 af2 az
  obtain ⟨⟨a0, a1, a2⟩, af0, af1, af2⟩ := three a
  have az := a.lt
  have aH := hide a
  have bH := hide b
  have vH := hide v
  have qH := hide q
  clear a b v q
  go_wp2_with fail
  refine (hv _).mono ?_
  rintro e w4 ⟨rfl, hb⟩
  have a := aH.out.call hb
  have b := bH.out.call hb
  have v := vH.out.call hb
  have q := below_call qH.out hb
  clear aH bH vH qH hb hv a0 a1 a2 af0 af1 af2 az
  obtain ⟨⟨b0, b1, b2⟩, bf0, bf1, bf2⟩ := three b
  have bz := b.lt
  have aH := hide a
  have bH := hide b
  have vH := hide v
  have qH := hide q
  clear a b v q
  go_wp2_with fail
  refine (hv' _).mono ?_
  rintro e w5 ⟨rfl, hb⟩
  have a := aH.out.call hb
  have b := bH.out.call hb
  have v := vH.out.call hb
  have q := below_call qH.out hb
  clear aH bH vH qH hb hv' b0 b1 b2 bf0 bf1 bf2 bz
  obtain ⟨⟨a0, a1, a2⟩, af0, af1, af2⟩ := three a
  have az := a.lt
  have aH := hide a
  have bH := hide b
  have vH := hide v
  have qH := hide q
  clear a b v q
  go_wp2_with fail
  refine (hko _).mono ?_
  rintro e w6 ⟨rfl, hb⟩
  have a := (aH.out.alloc _).call hb
  have b := (bH.out.alloc _).call hb
  have v := (vH.out.alloc _).call hb
  have c := (Has.new w5 _ _ _).call hb
  have q := below_call (below_alloc qH.out _) hb
  clear aH bH vH qH hb hko a0 a1 a2 af0 af1 af2 az
  obtain ⟨⟨a0, a1, a2⟩, af0, af1, af2⟩ := three a
  have az := a.lt
  obtain ⟨⟨b0, b1, b2⟩, bf0, bf1, bf2⟩ := three b
  have bz := b.lt
  have aH := hide a
  have bH := hide b
  have vH := hide v
  have cH := hide c
  have qH := hide q
  clear a b v c q
  go_wp2_with fail
  refine (hoo _).mono ?_
  rintro e w7 ⟨rfl, hb⟩
  have a := aH.out.call hb
  have b := bH.out.call hb
  have v := vH.out.call hb
  have c := cH.out.call hb
  have q := below_call qH.out hb
  clear aH bH vH cH qH hb hoo a0 a1 a2 af0 af1 af2 az b0 b1 b2 bf0 bf1 bf2 bz
  have aH := hide a
  have bH := hide b
  have vH := hide v
  have cH := hide c
  have qH := hide q
  clear a b v c q
  go_wp2_with fail
  refine (hbg _ qH.out).mono ?_
  rintro e w8 ⟨rfl, hb⟩
  have a := aH.out.call hb
  have b := bH.out.call hb
  have v := vH.out.call hb
  have c := cH.out.call hb
  have q := below_call qH.out hb
  clear aH bH vH cH qH hb hbg
  obtain ⟨⟨a0, a1, a2⟩, af0, af1, af2⟩ := three a
  have az := a.lt
  have aH := hide a
  have bH := hide b
  have vH := hide v
  have cH := hide c
  have qH := hide q
  clear a b v c q
  go_wp2_with fail
  refine (hch _).mono ?_
  rintro e w9 ⟨rfl, hb⟩
  have a := aH.out.call hb
  have b := bH.out.call hb
  have v := vH.out.call hb
  have c := cH.out.call hb
  have q := below_call qH.out hb
  clear aH bH vH cH qH hb hch a0 a1 a2 af0 af1 af2 az
  obtain ⟨⟨v0, v1, v2⟩, vf0, vf1, vf2⟩ := three v
  have vz := v.lt
  obtain ⟨⟨c0, c1, c2⟩, cf0, cf1, cf2⟩ := three c
  have cz := c.lt
  have aH := hide a
  have bH := hide b
  have vH := hide v
  have cH := hide c
  have qH := hide q
  clear a b v c q
  go_wp2_with fail
  refine (hsm _ _ _ _).mono ?_
  rintro e w10 ⟨rfl, hb⟩
  have q := hide (below_call qH.out hb)
  go_wp2
  go_ret
  exact ⟨rfl, q.out⟩

set_option maxRecDepth 100000 in
set_option maxHeartbeats 3200000 in
theorem tl_high (K N K' N' tt : Int) (s s' : ByteArray) (w : World) (n : Int) (k : ByteArray) (ht1 : 1 ≤ tt) (ht3 : 3 < tt)
    (ho : ∀ W : World, Calls Tryd.prog 5 #[.agg #[.int .i64 K, .int .i64 N, .string s], .agg #[.int .i64 K', .int .i64 N', .string s']] W fun e w' => e = .returned (.tuple #[.int .i64 n, .int .i64 0]) ∧ Below W.heap.size W w')
    (hc : ∀ W : World, Below w.heap.size w W → Calls Tryd.prog 6 #[.agg #[.int .i64 K, .int .i64 N, .string s], .int .i64 tt] W fun e w' => e = .returned (.tuple #[.agg #[.int .i64 0, .int .i64 0, .string ⟨#[]⟩], .int .i64 7]) ∧ Below W.heap.size W w')
    (hk : ∀ W : World, Below w.heap.size w W → Calls Tryd.prog 7 #[.agg #[.int .i64 K, .int .i64 N, .string s]] W fun e w' => e = .returned (.tuple #[.string k, .int .i64 0]) ∧ Below W.heap.size W w')
    (hv : ∀ W : World, Calls Tryd.prog 8 #[.agg #[.int .i64 K, .int .i64 N, .string s]] W fun e w' => e = .returned (.int .i64 0) ∧ Below W.heap.size W w')
    (hv' : ∀ W : World, Calls Tryd.prog 8 #[.agg #[.int .i64 K', .int .i64 N', .string s']] W fun e w' => e = .returned (.int .i64 0) ∧ Below W.heap.size W w')
    (hko : ∀ W : World, Calls Tryd.prog 9 #[.agg #[.int .i64 K, .int .i64 N, .string s]] W fun e w' => e = .returned (.string k) ∧ Below W.heap.size W w')
    (hoo : ∀ W : World, Calls Tryd.prog 10 #[.agg #[.int .i64 K, .int .i64 N, .string s], .agg #[.int .i64 K', .int .i64 N', .string s']] W fun e w' => e = .returned (.int .i64 n) ∧ Below W.heap.size W w')
    (hbg : ∀ W : World, Below w.heap.size w W → Calls Tryd.prog 12 #[] W fun e w' => e = .returned (.bool true) ∧ Below W.heap.size W w')
    (hch : ∀ W : World, Calls Tryd.prog 13 #[.agg #[.int .i64 K, .int .i64 N, .string s]] W fun e w' => e = .returned (.int .i64 0) ∧ Below W.heap.size W w') :
    Calls Tryd.prog 3 #[.agg #[.int .i64 K, .int .i64 N, .string s], .agg #[.int .i64 K', .int .i64 N', .string s'], .int .i64 tt] w fun e w' => e = .returned (.bool true) ∧ Below w.heap.size w w' := by
  have a0 : Hid (Has ((w.alloc (.cells #[.int .i64 K, .int .i64 N, .string s] 23)).alloc (.cells #[.int .i64 K', .int .i64 N', .string s'] 23)) w.heap.size (.int .i64 K) (.int .i64 N) (.string s)) := (Two.start w K N s K' N' s').1
  have b0 : Hid (Has ((w.alloc (.cells #[.int .i64 K, .int .i64 N, .string s] 23)).alloc (.cells #[.int .i64 K', .int .i64 N', .string s'] 23)) (w.heap.size + 1) (.int .i64 K') (.int .i64 N') (.string s')) := (Two.start w K N s K' N' s').2.1
  have q0 : Hid (Below w.heap.size w ((w.alloc (.cells #[.int .i64 K, .int .i64 N, .string s] 23)).alloc (.cells #[.int .i64 K', .int .i64 N', .string s'] 23))) := (Two.start w K N s K' N' s').2.2.1
  have hsm := same_any
  go_enter Tryd.func3, Tryd.ntmps3
  go_wp2_with fail
  refine (ho _).mono ?_
  rintro e w1 ⟨rfl, hb⟩
  have a := a0.out.call hb
  have b := b0.out.call hb
  have q := below_call q0.out hb
  clear a0 b0 q0 hb ho
  obtain ⟨⟨a0, a1, a2⟩, af0, af1, af2⟩ := three a
  have az := a.lt
  have aH := hide a
  have bH := hide b
  have qH := hide q
  clear a b q
  go_wp2_with fail
  refine (hc _ qH.out).mono ?_
  rintro e w2 ⟨rfl, hb⟩
  have a := aH.out.call hb
  have b := bH.out.call hb
  have q := below_call qH.out hb
  clear aH bH qH hb hc a0 a1 a2 af0 af1 af2 az
  obtain ⟨⟨a0, a1, a2⟩, af0, af1, af2⟩ := three a
  have az := a.lt
  have aH := hide a
  have bH := hide b
  have qH := hide q
  clear a b q
  go_wp2_with fail
  refine (hk _ (below_alloc qH.out _)).mono ?_
  rintro e w3 ⟨rfl, hb⟩
  have a := (aH.out.alloc _).call hb
  have b := (bH.out.alloc _).call hb
  have v := (Has.new w2 _ _ _).call hb
  have q := below_call (below_alloc qH.out _) hb
  clear aH bH qH hb hk a0 a1 a2 af0 af1 af2 az
  obtain ⟨⟨a0, a1, a2⟩, af0, af1, af2⟩ := three a
  have az := a.lt
  have aH := hide a
  have bH := hide b
  have vH := hide v
  have qH := hide q
  clear a b v q
  go_wp2_with fail
  refine (hv _).mono ?_
  rintro e w4 ⟨rfl, hb⟩
  have a := aH.out.call hb
  have b := bH.out.call hb
  have v := vH.out.call hb
  have q := below_call qH.out hb
  clear aH bH vH qH hb hv a0 a1 a2 af0 af1 af2 az
  obtain ⟨⟨b0, b1, b2⟩, bf0, bf1, bf2⟩ := three b
  have bz := b.lt
  have aH := hide a
  have bH := hide b
  have vH := hide v
  have qH := hide q
  clear a b v q
  go_wp2_with fail
  refine (hv' _).mono ?_
  rintro e w5 ⟨rfl, hb⟩
  have a := aH.out.call hb
  have b := bH.out.call hb
  have v := vH.out.call hb
  have q := below_call qH.out hb
  clear aH bH vH qH hb hv' b0 b1 b2 bf0 bf1 bf2 bz
  obtain ⟨⟨a0, a1, a2⟩, af0, af1, af2⟩ := three a
  have az := a.lt
  have aH := hide a
  have bH := hide b
  have vH := hide v
  have qH := hide q
  clear a b v q
  go_wp2_with fail
  refine (hko _).mono ?_
  rintro e w6 ⟨rfl, hb⟩
  have a := (aH.out.alloc _).call hb
  have b := (bH.out.alloc _).call hb
  have v := (vH.out.alloc _).call hb
  have c := (Has.new w5 _ _ _).call hb
  have q := below_call (below_alloc qH.out _) hb
  clear aH bH vH qH hb hko a0 a1 a2 af0 af1 af2 az
  obtain ⟨⟨a0, a1, a2⟩, af0, af1, af2⟩ := three a
  have az := a.lt
  obtain ⟨⟨b0, b1, b2⟩, bf0, bf1, bf2⟩ := three b
  have bz := b.lt
  have aH := hide a
  have bH := hide b
  have vH := hide v
  have cH := hide c
  have qH := hide q
  clear a b v c q
  go_wp2_with fail
  refine (hoo _).mono ?_
  rintro e w7 ⟨rfl, hb⟩
  have a := aH.out.call hb
  have b := bH.out.call hb
  have v := vH.out.call hb
  have c := cH.out.call hb
  have q := below_call qH.out hb
  clear aH bH vH cH qH hb hoo a0 a1 a2 af0 af1 af2 az b0 b1 b2 bf0 bf1 bf2 bz
  have aH := hide a
  have bH := hide b
  have vH := hide v
  have cH := hide c
  have qH := hide q
  clear a b v c q
  go_wp2_with fail
  refine (hbg _ qH.out).mono ?_
  rintro e w8 ⟨rfl, hb⟩
  have a := aH.out.call hb
  have b := bH.out.call hb
  have v := vH.out.call hb
  have c := cH.out.call hb
  have q := below_call qH.out hb
  clear aH bH vH cH qH hb hbg
  obtain ⟨⟨a0, a1, a2⟩, af0, af1, af2⟩ := three a
  have az := a.lt
  have aH := hide a
  have bH := hide b
  have vH := hide v
  have cH := hide c
  have qH := hide q
  clear a b v c q
  go_wp2_with fail
  refine (hch _).mono ?_
  rintro e w9 ⟨rfl, hb⟩
  have a := aH.out.call hb
  have b := bH.out.call hb
  have v := vH.out.call hb
  have c := cH.out.call hb
  have q := below_call qH.out hb
  clear aH bH vH cH qH hb hch a0 a1 a2 af0 af1 af2 az
  obtain ⟨⟨v0, v1, v2⟩, vf0, vf1, vf2⟩ := three v
  have vz := v.lt
  obtain ⟨⟨c0, c1, c2⟩, cf0, cf1, cf2⟩ := three c
  have cz := c.lt
  have aH := hide a
  have bH := hide b
  have vH := hide v
  have cH := hide c
  have qH := hide q
  clear a b v c q
  go_wp2_with fail
  refine (hsm _ _ _ _).mono ?_
  rintro e w10 ⟨rfl, hb⟩
  have q := hide (below_call qH.out hb)
  go_wp2
  go_ret
  exact ⟨rfl, q.out⟩

set_option maxRecDepth 100000 in
set_option maxHeartbeats 3200000 in
theorem tl_eok (K N K' N' tt : Int) (s s' : ByteArray) (w : World) (k : ByteArray) (x y : Int) (u : ByteArray) (E : Nat) (hE : ((E : Int) == 0) = false) (ht1 : 1 ≤ tt) (ht3 : tt ≤ 3)
    (ho : ∀ W : World, Calls Tryd.prog 5 #[.agg #[.int .i64 K, .int .i64 N, .string s], .agg #[.int .i64 K', .int .i64 N', .string s']] W fun e w' => e = .returned (.tuple #[.int .i64 0, .int .i64 (E : Nat)]) ∧ Below W.heap.size W w')
    (hc : ∀ W : World, Below w.heap.size w W → Calls Tryd.prog 6 #[.agg #[.int .i64 K, .int .i64 N, .string s], .int .i64 tt] W fun e w' => e = .returned (.tuple #[.agg #[.int .i64 x, .int .i64 y, .string u], .int .i64 0]) ∧ Below W.heap.size W w')
    (hk : ∀ W : World, Below w.heap.size w W → Calls Tryd.prog 7 #[.agg #[.int .i64 K, .int .i64 N, .string s]] W fun e w' => e = .returned (.tuple #[.string k, .int .i64 0]) ∧ Below W.heap.size W w')
    (hv : ∀ W : World, Calls Tryd.prog 8 #[.agg #[.int .i64 K, .int .i64 N, .string s]] W fun e w' => e = .returned (.int .i64 0) ∧ Below W.heap.size W w')
    (hv' : ∀ W : World, Calls Tryd.prog 8 #[.agg #[.int .i64 K', .int .i64 N', .string s']] W fun e w' => e = .returned (.int .i64 (E : Nat)) ∧ Below W.heap.size W w')
    (hko : ∀ W : World, Calls Tryd.prog 9 #[.agg #[.int .i64 K, .int .i64 N, .string s]] W fun e w' => e = .returned (.string k) ∧ Below W.heap.size W w')
    (hco : ∀ W : World, Calls Tryd.prog 11 #[.agg #[.int .i64 K, .int .i64 N, .string s], .int .i64 tt] W fun e w' => e = .returned (.agg #[.int .i64 x, .int .i64 y, .string u]) ∧ Below W.heap.size W w')
    (hbg : ∀ W : World, Below w.heap.size w W → Calls Tryd.prog 12 #[] W fun e w' => e = .returned (.bool true) ∧ Below W.heap.size W w')
    (hch : ∀ W : World, Calls Tryd.prog 13 #[.agg #[.int .i64 K, .int .i64 N, .string s]] W fun e w' => e = .returned (.int .i64 0) ∧ Below W.heap.size W w') :
    Calls Tryd.prog 3 #[.agg #[.int .i64 K, .int .i64 N, .string s], .agg #[.int .i64 K', .int .i64 N', .string s'], .int .i64 tt] w fun e w' => e = .returned (.bool true) ∧ Below w.heap.size w w' := by
  have a0 : Hid (Has ((w.alloc (.cells #[.int .i64 K, .int .i64 N, .string s] 23)).alloc (.cells #[.int .i64 K', .int .i64 N', .string s'] 23)) w.heap.size (.int .i64 K) (.int .i64 N) (.string s)) := (Two.start w K N s K' N' s').1
  have b0 : Hid (Has ((w.alloc (.cells #[.int .i64 K, .int .i64 N, .string s] 23)).alloc (.cells #[.int .i64 K', .int .i64 N', .string s'] 23)) (w.heap.size + 1) (.int .i64 K') (.int .i64 N') (.string s')) := (Two.start w K N s K' N' s').2.1
  have q0 : Hid (Below w.heap.size w ((w.alloc (.cells #[.int .i64 K, .int .i64 N, .string s] 23)).alloc (.cells #[.int .i64 K', .int .i64 N', .string s'] 23))) := (Two.start w K N s K' N' s').2.2.1
  have hsm := same_any
  go_enter Tryd.func3, Tryd.ntmps3
  go_wp2_with fail
  refine (ho _).mono ?_
  rintro e w1 ⟨rfl, hb⟩
  have a := a0.out.call hb
  have b := b0.out.call hb
  have q := below_call q0.out hb
  clear a0 b0 q0 hb ho
  obtain ⟨⟨a0, a1, a2⟩, af0, af1, af2⟩ := three a
  have az := a.lt
  have aH := hide a
  have bH := hide b
  have qH := hide q
  clear a b q
  go_wp2_with fail
  refine (hc _ qH.out).mono ?_
  rintro e w2 ⟨rfl, hb⟩
  have a := aH.out.call hb
  have b := bH.out.call hb
  have q := below_call qH.out hb
  clear aH bH qH hb hc a0 a1 a2 af0 af1 af2 az
  obtain ⟨⟨a0, a1, a2⟩, af0, af1, af2⟩ := three a
  have az := a.lt
  have aH := hide a
  have bH := hide b
  have qH := hide q
  clear a b q
  go_wp2_with fail
  refine (hk _ (below_alloc qH.out _)).mono ?_
  rintro e w3 ⟨rfl, hb⟩
  have a := (aH.out.alloc _).call hb
  have b := (bH.out.alloc _).call hb
  have v := (Has.new w2 _ _ _).call hb
  have q := below_call (below_alloc qH.out _) hb
  clear aH bH qH hb hk a0 a1 a2 af0 af1 af2 az
  obtain ⟨⟨a0, a1, a2⟩, af0, af1, af2⟩ := three a
  have az := a.lt
  have aH := hide a
  have bH := hide b
  have vH := hide v
  have qH := hide q
  clear a b v q
  go_wp2_with fail
  refine (hv _).mono ?_
  rintro e w4 ⟨rfl, hb⟩
  have a := aH.out.call hb
  have b := bH.out.call hb
  have v := vH.out.call hb
  have q := below_call qH.out hb
  clear aH bH vH qH hb hv a0 a1 a2 af0 af1 af2 az
  obtain ⟨⟨b0, b1, b2⟩, bf0, bf1, bf2⟩ := three b
  have bz := b.lt
  have aH := hide a
  have bH := hide b
  have vH := hide v
  have qH := hide q
  clear a b v q
  go_wp2_with fail
  refine (hv' _).mono ?_
  rintro e w5 ⟨rfl, hb⟩
  have a := aH.out.call hb
  have b := bH.out.call hb
  have v := vH.out.call hb
  have q := below_call qH.out hb
  clear aH bH vH qH hb hv' b0 b1 b2 bf0 bf1 bf2 bz
  obtain ⟨⟨a0, a1, a2⟩, af0, af1, af2⟩ := three a
  have az := a.lt
  have aH := hide a
  have bH := hide b
  have vH := hide v
  have qH := hide q
  clear a b v q
  go_wp2_with fail
  refine (hko _).mono ?_
  rintro e w6 ⟨rfl, hb⟩
  have a := (aH.out.alloc _).call hb
  have b := (bH.out.alloc _).call hb
  have v := (vH.out.alloc _).call hb
  have c := (Has.new w5 _ _ _).call hb
  have hlA : w.heap.size < w5.heap.size := aH.out.lt
  have hlV : w2.heap.size < w5.heap.size := vH.out.lt
  have hlQ : w.heap.size ≤ w5.heap.size := qH.out.size
  have q := below_call (below_alloc qH.out _) hb
  clear aH bH vH qH hb hko a0 a1 a2 af0 af1 af2 az
  obtain ⟨⟨a0, a1, a2⟩, af0, af1, af2⟩ := three a
  have az := a.lt
  have aH := hide a
  have bH := hide b
  have vH := hide v
  have cH := hide c
  have qH := hide q
  clear a b v c q
  go_wp2_with fail
  refine (hco _).mono ?_
  rintro e w7 ⟨rfl, hb⟩
  have a := aH.out.call hb
  have b := bH.out.call hb
  have v := vH.out.call hb
  have c := cH.out.call hb
  have q := below_call qH.out hb
  clear aH bH vH cH qH hb hco a0 a1 a2 af0 af1 af2 az
  obtain ⟨⟨c0, c1, c2⟩, cf0, cf1, cf2⟩ := three c
  have hbs := below_put3 w7 w5.heap.size (.int .i64 x) (.int .i64 y) (.string u)
  have aH := hide (a.below hbs hlA)
  have vH := hide (v.below hbs hlV)
  have cH := hide (c.put3 (.int .i64 x) (.int .i64 y) (.string u))
  have qH := hide (q.trans (hbs.mono hlQ))
  clear a b v c q hbs hlA hlV hlQ
  go_wp2_with fail
  generalize (((w7.setCell ⟨w5.heap.size, 0, none⟩ (.int .i64 x)).setCell ⟨w5.heap.size, 1, none⟩ (.int .i64 y)).setCell ⟨w5.heap.size, 2, none⟩ (.string u)) = ws at *
  refine (hbg _ qH.out).mono ?_
  rintro e w8 ⟨rfl, hb⟩
  have a := aH.out.call hb
  have v := vH.out.call hb
  have c := cH.out.call hb
  have q := below_call qH.out hb
  clear aH vH cH qH hb hbg c0 c1 c2 cf0 cf1 cf2
  obtain ⟨⟨a0, a1, a2⟩, af0, af1, af2⟩ := three a
  have az := a.lt
  have aH := hide a
  have vH := hide v
  have cH := hide c
  have qH := hide q
  clear a v c q
  go_wp2_with fail
  refine (hch _).mono ?_
  rintro e w9 ⟨rfl, hb⟩
  have a := aH.out.call hb
  have v := vH.out.call hb
  have c := cH.out.call hb
  have q := below_call qH.out hb
  clear aH vH cH qH hb hch a0 a1 a2 af0 af1 af2 az
  obtain ⟨⟨v0, v1, v2⟩, vf0, vf1, vf2⟩ := three v
  have vz := v.lt
  obtain ⟨⟨c0, c1, c2⟩, cf0, cf1, cf2⟩ := three c
  have cz := c.lt
  have aH := hide a
  have vH := hide v
  have cH := hide c
  have qH := hide q
  clear a v c q
  go_wp2_with fail
  refine (hsm _ _ _ _).mono ?_
  rintro e w10 ⟨rfl, hb⟩
  have q := hide (below_call qH.out hb)
  go_wp2
  go_ret
  exact ⟨rfl, q.out⟩

end Go.Proofs.YtpigdmnpnceohaaDoor
