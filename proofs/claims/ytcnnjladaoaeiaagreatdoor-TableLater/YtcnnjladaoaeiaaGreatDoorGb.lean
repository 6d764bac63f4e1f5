/-
  The writers of strings.Builder over this program: what each leaves of the builder, and of all blocks that are neither the builder's nor rows of bytes.
  'Scan' and 'alone' of package token, at every input.
  'Join' of package token.
  Plain functions' laws on tokens, over lists of bytes: the same as over the other laws' program.
  'isInt', 'isQuotable' and 'Check' of package value.
  'tenDigits' and 'Key' of package value.
  The map of three entries that 'ofEachKind' makes, over the model's own operations.
  'intOf' of package value.
-/
import Derived.Lib.OthersKept
import Derived.Laws.StructEq
import Derived.MapKept
import Derived.Test.YtcnnjladaoaeiaaGreatDoorGa

set_option maxRecDepth 100000
set_option maxHeartbeats 25600000
namespace Go.Proofs.YtcnnjladaoaeiaaGreatDoor
open Go.RowKit
theorem Tryz.infoB5 : (Tryz.prog.info? 5).map (fun i => (i.zero, i.size, i.bytes)) = some (some (.int .u8 0), 1, 1) := by kernel_rfl
theorem Tryz.sizeB45 : (Tryz.prog.info? 184).map (·.size) = some 2 := by kernel_rfl
theorem Tryz.liesB45 : liesAt Tryz.prog Tryz.prog.depth 184 (2 / Tryz.prog.cellsOf 184) 0 184 1 = true := by kernel_rfl
theorem copyCheck_used (b : Nat) (w : World) (h0 : w.cell? ⟨b, 0, none⟩ = some (.pointer (some ⟨b, 0, none⟩))) :
    Calls Tryz.prog 176 #[.pointer (some ⟨b, 0, none⟩)] w fun e w' => e = .returned (.tuple #[]) ∧ w' = w := by
  obtain ⟨j, hj, _⟩ := Option.map_eq_some_iff.1 Tryz.sizeB45
  go_enter Tryz.func176, Tryz.ntmps176
  go_wp2
  rw [Lib.run_neq_ptr_same w _ Tryz.underlying182 hj]
  go_wp2
  go_end0
  exact ⟨rfl, rfl⟩
theorem copyCheck_fresh (b : Nat) (w : World) (h0 : w.cell? ⟨b, 0, none⟩ = some (.pointer none)) (hsh : w.shape? b = some (184, 2)) (hfz : w.frozen? ⟨b, 0, none⟩ = false) :
    Calls Tryz.prog 176 #[.pointer (some ⟨b, 0, none⟩)] w fun e w' => e = .returned (.tuple #[]) ∧ w' = w.setCell ⟨b, 0, none⟩ (.pointer (some ⟨b, 0, none⟩)) := by
  obtain ⟨j, hj, hjs⟩ := Option.map_eq_some_iff.1 Tryz.sizeB45
  go_enter Tryz.func176, Tryz.ntmps176
  go_wp2
  rw [Lib.run_to_unsafe w ⟨b, 0, none⟩ Tryz.underlying182 Tryz.underlying218 hj (by rw [hjs]; decide) hsh (Nat.zero_lt_succ 1)]
  simp only [Result.andThen]
  rw [Oper.upon_value]
  go_wp2
  rw [run_callFunc_extern Tryz.func196 (by kernel_rfl) (by kernel_rfl) (by kernel_rfl) (e := Extern.AbiNoEscape.same) (by kernel_rfl)]
  rw [Lib.run_noEscape]
  simp only [Result.andThen]
  rw [Oper.upon_value]
  go_wp2
  rw [Lib.run_from_unsafe w ⟨b, 0, none⟩ Tryz.underlying218 Tryz.underlying182 hj hsh Tryz.liesB45]
  simp only [Result.andThen]
  rw [Oper.upon_value]
  go_wp2
  go_end0
  exact ⟨rfl, rfl⟩
theorem copyCheck_any (B b : Nat) (bs : List Value) (w : World) (h : Lib.IsBuilder 184 5 B b bs w) :
    Calls Tryz.prog 176 #[.pointer (some ⟨b, 0, none⟩)] w fun e w' => e = .returned (.tuple #[]) ∧ Lib.BuilderAt 184 5 B b (.pointer (some ⟨b, 0, none⟩)) bs w' ∧ Below B w w' ∧ Lib.OthersKept 5 (some b) w w' := by
  rcases h with h | h
  · refine (copyCheck_fresh b w h.cell0 h.shape h.frozen0).mono ?_
    rintro e w' ⟨rfl, rfl⟩
    exact ⟨rfl, h.used _, (Below.refl B w).setCell (p := ⟨b, 0, none⟩) h.1 _, (Lib.OthersKept.refl 5 (some b) w).setCell ⟨b, 0, none⟩ rfl _⟩
  · refine (copyCheck_used b w h.cell0).mono ?_
    rintro e w' ⟨rfl, rfl⟩
    exact ⟨rfl, h, Below.refl B _, Lib.OthersKept.refl 5 (some b) _⟩
theorem ownsRow_kind {w : World} {B : Nat} {e : TypeId} {v : Value} {n : Nat} {xs : List Value} (h : w.ownsRow B e 1 v n xs) : ∀ g, v.ownBlock = some g → ∃ c fz, w.heap[g]? = some (.cells c e fz) := by
  intro g hg
  rcases h.2 with ⟨rfl, _⟩ | ⟨g', cap, cur, rfl, _, hgg, _⟩
  · simp [Value.ownBlock] at hg
  · simp [Value.ownBlock] at hg
    subst hg
    exact ⟨cur, _, hgg⟩
theorem writeByte_any (B b : Nat) (bs : List Value) (c : Int) (w : World) (h : Lib.IsBuilder 184 5 B b bs w) (hlen : bs.length + 1 ≤ 140737488355328) (hBw : B ≤ w.heap.size) :
    Calls Tryz.prog 158 #[.pointer (some ⟨b, 0, none⟩), .int .u8 c] w fun e w' => e = .returned .nilIface ∧ Lib.BuilderAt 184 5 B b (.pointer (some ⟨b, 0, none⟩)) (bs ++ [.int .u8 c]) w' ∧ Below B w w' ∧ Lib.OthersKept 5 (some b) w w' := by
  obtain ⟨i0, hi, hz0, hz1, hz2⟩ := info_parts Tryz.infoB5
  go_enter Tryz.func158, Tryz.ntmps158
  go_wp2_with (go_at_call 176; refine (copyCheck_any B b bs _ h).mono ?_)
  rintro e w1 ⟨rfl, h1, hb1, ho1⟩
  obtain ⟨hB, v, hbk, hown, hne⟩ := h1
  have c0 : w1.cell? ⟨b, 0, none⟩ = some (.pointer (some ⟨b, 0, none⟩)) := by rw [Lib.cell_of_heap hbk]; rfl
  have c1 : w1.cell? ⟨b, 1, none⟩ = some v := by rw [Lib.cell_of_heap hbk]; rfl
  go_wp2_with (at_builtin; refine wpList_append_own _ rfl _ _ 134 rfl B 5 i0 (.int .u8 0) 1 1 Tryz.underlying134 hi hz0 hz1 hz2 rfl (by decide) _ _ _ rfl (hown.alloc _) ⟨w1.heap.size, 0, none⟩ 1 1 [.int .u8 c] rfl rfl ?c1 ?c2 ?c3 ?c4 ?c5 ?_)
  case c1 =>
    intro j u hj
    match j, hj with
    | 0, hj => simp at hj; subst hj; simp [Addr.add]
  case c2 => intro u hu; simp at hu; subst hu; rfl
  case c3 => unfold maxLen; omega
  case c4 => omega
  case c5 => have := hb1.size; simp; omega
  intro v' w2 hown' hgrow _
  have hlt : b < w1.heap.size := by
    rcases Nat.lt_or_ge b w1.heap.size with h' | h'
    · exact h'
    · simp [Array.getElem?_eq_none h'] at hbk
  have hb2 : w2.heap[b]? = some (.cells #[.pointer (some ⟨b, 0, none⟩), v] 184 (0, 0)) := by
    rw [hgrow.block b (by simp; omega) (fun e => hne e.symm), Lib.alloc_old w1 _ b hlt]
    exact hbk
  have d0 : w2.cell? ⟨b, 0, none⟩ = some (.pointer (some ⟨b, 0, none⟩)) := by rw [Lib.cell_of_heap hb2]; rfl
  have d1 : w2.cell? ⟨b, 1, none⟩ = some v := by rw [Lib.cell_of_heap hb2]; rfl
  have f1 : w2.frozen? ⟨b, 1, none⟩ = false := Lib.frozen_of_heap hb2 1
  obtain ⟨g, cap, rfl⟩ : ∃ g cap, v' = .slice (some ⟨g, 0, none⟩) (bs.length + 1) cap := by
    rcases hown'.2 with ⟨_, h0⟩ | ⟨g, cap, cur, hv, _⟩
    · omega
    · exact ⟨g, cap, hv⟩
  go_wp2
  go_ret
  refine ⟨rfl, ?_, ?_, ?_⟩
  · exact Lib.BuilderAt.put (T := 184) (e := 5) hB hb2 (bs' := bs ++ [.int .u8 c]) (by simpa using hown') (by decide)
  · exact ((hb1.alloc (by have := hb1.size; omega) _).grown hgrow (by have := hb1.size; simp; omega) (fun k hk => (hown.lt k hk).1)).setCell (p := ⟨b, 1, none⟩) hB _
  · exact ((ho1.alloc _).grown hgrow (ownsRow_kind (hown.alloc _))).setCell ⟨b, 1, none⟩ rfl _
theorem writeString_any (B b : Nat) (bs : List Value) (s : ByteArray) (w : World) (h : Lib.IsBuilder 184 5 B b bs w) (hlen : bs.length + s.size ≤ 140737488355328) (hBw : B ≤ w.heap.size) :
    Calls Tryz.prog 159 #[.pointer (some ⟨b, 0, none⟩), .string s] w fun e w' => e = .returned (.tuple #[.int .i64 s.size, .nilIface]) ∧ Lib.BuilderAt 184 5 B b (.pointer (some ⟨b, 0, none⟩)) (bs ++ Lib.strCells s) w' ∧ Below B w w' ∧ Lib.OthersKept 5 (some b) w w' := by
  obtain ⟨i0, hi, hz0, hz1, hz2⟩ := info_parts Tryz.infoB5
  go_enter Tryz.func159, Tryz.ntmps159
  go_wp2_with (go_at_call 176; refine (copyCheck_any B b bs _ h).mono ?_)
  rintro e w1 ⟨rfl, h1, hb1, ho1⟩
  obtain ⟨hB, v, hbk, hown, hne⟩ := h1
  have c0 : w1.cell? ⟨b, 0, none⟩ = some (.pointer (some ⟨b, 0, none⟩)) := by rw [Lib.cell_of_heap hbk]; rfl
  have c1 : w1.cell? ⟨b, 1, none⟩ = some v := by rw [Lib.cell_of_heap hbk]; rfl
  go_wp2_with (at_builtin; refine Lib.wpList_append_own_string _ rfl _ _ 134 9 rfl B 5 i0 Tryz.underlying134 Tryz.underlying9 hi hz0 hz1 hz2 _ _ _ rfl hown s rfl ?c3 ?c4 ?c5 ?_)
  case c3 => unfold maxLen; omega
  case c4 => omega
  case c5 => have := hb1.size; omega
  intro v' w2 hown' hgrow _
  have hlt : b < w1.heap.size := by
    rcases Nat.lt_or_ge b w1.heap.size with h' | h'
    · exact h'
    · simp [Array.getElem?_eq_none h'] at hbk
  have hb2 : w2.heap[b]? = some (.cells #[.pointer (some ⟨b, 0, none⟩), v] 184 (0, 0)) := by
    rw [hgrow.block b hlt (fun e => hne e.symm)]
    exact hbk
  have d0 : w2.cell? ⟨b, 0, none⟩ = some (.pointer (some ⟨b, 0, none⟩)) := by rw [Lib.cell_of_heap hb2]; rfl
  have d1 : w2.cell? ⟨b, 1, none⟩ = some v := by rw [Lib.cell_of_heap hb2]; rfl
  have f1 : w2.frozen? ⟨b, 1, none⟩ = false := Lib.frozen_of_heap hb2 1
  obtain ⟨ao, n', cap, rfl⟩ : ∃ ao n' cap, v' = .slice ao n' cap := by
    rcases hown'.2 with ⟨hv, _⟩ | ⟨g, cap, cur, hv, _⟩
    · exact ⟨_, _, _, hv⟩
    · exact ⟨_, _, _, hv⟩
  go_wp2
  go_ret2
  refine ⟨rfl, ?_, ?_, ?_⟩
  · exact Lib.BuilderAt.put (T := 184) (e := 5) hB hb2 (bs' := bs ++ Lib.strCells s) (by simpa [Lib.strCells_length] using hown') (by decide)
  · exact (hb1.grown hgrow (by have := hb1.size; omega) (fun k hk => (hown.lt k hk).1)).setCell (p := ⟨b, 1, none⟩) hB _
  · exact (ho1.grown hgrow (ownsRow_kind hown)).setCell ⟨b, 1, none⟩ rfl _
theorem owns_slice {w : World} {base : Nat} {e : TypeId} {size : Nat} {v : Value} {n : Nat} {xs : List Value} (h : w.ownsRow base e size v n xs) : ∃ ao cap, v = .slice ao n cap := by
  rcases h.2 with ⟨hv, h0⟩ | ⟨g, cap, cur, hv, _⟩
  · exact ⟨none, 0, by rw [hv, h0]⟩
  · exact ⟨_, _, hv⟩
theorem owns_some {w : World} {base : Nat} {e : TypeId} {size : Nat} {v : Value} {n : Nat} {xs : List Value} (h : w.ownsRow base e size v n xs) (hn : n ≠ 0) : ∃ g cap, v = .slice (some ⟨g, 0, none⟩) n cap ∧ base ≤ g ∧ g < w.heap.size := by
  rcases h.2 with ⟨hv, h0⟩ | ⟨g, cap, cur, hv, hb, hg, _⟩
  · exact absurd h0 hn
  · exact ⟨g, cap, hv, hb, (ltS hg)⟩
theorem scan_any (s : ByteArray) (w : World) (hm : s.size ≤ 9223372036854775000) :
    Calls Tryz.prog 175 #[.string s] w fun e w' => ∃ v, e = .returned (.tuple #[v, .int .i64 ((scanS s.data.toList).2.1 : Nat), .int .i64 ((scanS s.data.toList).2.2 : Nat)]) ∧
      w'.ownsRow w.heap.size 160 3 v (scanS s.data.toList).1.length (cellsT (scanS s.data.toList).1) ∧ Below w.heap.size w w' := by
  have hl : s.data.toList.length = s.size := by simp
  by_cases h : 2000 < s.size
  · refine (scan_long s w h hm).mono ?_
    rintro e w' ⟨rfl, rfl⟩
    have : scanS s.data.toList = ([], 0, 2) := by unfold scanS; rw [if_pos (by omega)]
    rw [this]
    exact ⟨_, rfl, World.ownsRow_nil _ _ _ _, Below.refl _ _⟩
  · have : scanS s.data.toList = scanL 0 s.data.toList [] := by unfold scanS; rw [if_neg (by omega)]
    rw [this]
    exact scan_short s w (by omega)
theorem Tryz.fields34 : (Tryz.prog.fieldsOf 160).toList.map (fun f => (f.name, f.type, f.offset)) = [("Kind", 3, 0), ("At", 3, 1), ("Text", 9, 2)] := by kernel_rfl
theorem Tryz.under34 : Tryz.prog.underlying 160 = some (.struct (Tryz.prog.fieldsOf 160)) := by kernel_rfl
theorem Tryz.stood34 : Tryz.prog.stoodInHeld 160 = false := by kernel_rfl
theorem fields_three {l : List Field} {a b c : String} {i j k m n o : Nat} (h : l.map (fun f => (f.name, f.type, f.offset)) = [(a, i, j), (b, k, m), (c, n, o)]) :
    ∃ f0 f1 f2 : Field, l = [f0, f1, f2] ∧ f0.name = a ∧ f0.type = i ∧ f0.offset = j ∧ f1.name = b ∧ f1.type = k ∧ f1.offset = m ∧ f2.name = c ∧ f2.type = n ∧ f2.offset = o := by
  obtain ⟨f0, l1, rfl, h0, h1⟩ := List.map_eq_cons_iff.1 h
  obtain ⟨f1, l2, rfl, h2, h3⟩ := List.map_eq_cons_iff.1 h1
  obtain ⟨f2, l3, rfl, h4, h5⟩ := List.map_eq_cons_iff.1 h3
  have h6 := List.map_eq_nil_iff.1 h5
  subst h6
  simp only [Prod.mk.injEq] at h0 h2 h4
  exact ⟨f0, f1, f2, rfl, h0.1, h0.2.1, h0.2.2, h2.1, h2.2.1, h2.2.2, h4.1, h4.2.1, h4.2.2⟩
def sameTk (k a : Int) (t : ByteArray) (k' a' : Int) (t' : ByteArray) : Bool := (k == k') && (a == a') && (t.toList == t'.toList)
theorem eql34 (k a k' a' : Int) (t t' : ByteArray) (w : World) :
    (binOp .eql 160 (.agg #[.int .i64 k, .int .i64 a, .string t]) (.agg #[.int .i64 k', .int .i64 a', .string t'])).run Tryz.prog w = .ok (.bool (sameTk k a t k' a' t')) w := by
  rw [run_eql_struct, run_equalIn_struct w 9999 160 _ _ Tryz.under34 Tryz.stood34]
  obtain ⟨f0, f1, f2, hf, n0, t0, o0, n1, t1, o1, n2, t2, o2⟩ := fields_three Tryz.fields34
  rw [hf]
  simp [Op.eqFields, n0, t0, o0, n1, t1, o1, n2, t2, o2, go_sem]
  unfold sameTk
  by_cases h1 : k = k' <;> by_cases h2 : a = a' <;> by_cases h3 : t.toList = t'.toList <;> simp [h1, h2, h3]
def aloneB (K : Int) (l : List UInt8) : Bool :=
  match scanS l with
  | ([x], _, 0) => decide (x.k = K ∧ x.a = 0 ∧ x.t = l)
  | _ => false
theorem alone_err (K A : Int) (t : ByteArray) (w : World) (hm : t.size ≤ 9223372036854775000) (L : List Tk) (at_ E : Nat) (hr : scanS t.data.toList = (L, at_, E)) (hE : E ≠ 0) :
    Calls Tryz.prog 157 #[.agg #[.int .i64 K, .int .i64 A, .string t]] w fun e w' => e = .returned (.bool false) ∧ Below w.heap.size w w' := by
  have hs := fun W => scan_any t W hm
  rw [hr] at hs
  have hEb : ((E : Int) == 0) = false := by simp; omega
  clear hr hE
  go_enter Tryz.func157, Tryz.ntmps157
  go_wp2_with (go_at_call 175; refine (hs _).mono ?_; rintro e w1 ⟨v, rfl, hown, hb1⟩)
  go_quiet (fail)
  go_wp2
  go_ret
  exact ⟨rfl, below_drewN (((Below.refl _ _).alloc (Nat.le_refl _) _).trans (hb1.mono (by simp))) _⟩
theorem alone_many (K A : Int) (t : ByteArray) (w : World) (hm : t.size ≤ 9223372036854775000) (L : List Tk) (at_ : Nat) (hr : scanS t.data.toList = (L, at_, 0)) (hL : L.length ≠ 1) :
    Calls Tryz.prog 157 #[.agg #[.int .i64 K, .int .i64 A, .string t]] w fun e w' => e = .returned (.bool false) ∧ Below w.heap.size w w' := by
  have hs := fun W => scan_any t W hm
  rw [hr] at hs
  have hEb : ((L.length : Int) == 1) = false := by simp; omega
  clear hr hL
  go_enter Tryz.func157, Tryz.ntmps157
  go_wp2_with (go_at_call 175; refine (hs _).mono ?_; rintro e w1 ⟨v, rfl, hown, hb1⟩; obtain ⟨ao, cap, hv⟩ := owns_slice hown; subst hv; clear hown)
  go_quiet (fail)
  go_wp2
  go_ret
  exact ⟨rfl, below_drewN (((Below.refl _ _).alloc (Nat.le_refl _) _).trans (hb1.mono (by simp))) _⟩
theorem alone_one (K A : Int) (t : ByteArray) (w : World) (hm : t.size ≤ 9223372036854775000) (x : Tk) (at_ : Nat) (hr : scanS t.data.toList = ([x], at_, 0)) :
    Calls Tryz.prog 157 #[.agg #[.int .i64 K, .int .i64 A, .string t]] w fun e w' => e = .returned (.bool (decide (x.k = K ∧ x.a = 0 ∧ x.t = t.data.toList))) ∧ Below w.heap.size w w' := by
  have hs := fun W => scan_any t W hm
  rw [hr] at hs
  clear hr
  obtain ⟨xk, xa, xt⟩ := x
  simp only [List.length_cons, List.length_nil, Nat.zero_add, cellsT, List.flatMap_cons, List.flatMap_nil, List.append_nil, Tk.cells] at hs ⊢
  have hq := eql34
  go_enter Tryz.func157, Tryz.ntmps157
  go_wp2_with (go_at_call 175; refine (hs _).mono ?_)
  rintro e w1 ⟨v, rfl, hown, hb1⟩
  obtain ⟨g, cap, hv, hg1, hg2⟩ := owns_some hown (by decide)
  rw [hv] at hown
  have c0 : w1.cell? ⟨g, 0, none⟩ = some (.int .i64 xk) := hown.cellAt 0 (by decide)
  have c1 : w1.cell? ⟨g, 1, none⟩ = some (.int .i64 xa) := hown.cellAt 1 (by decide)
  have c2 : w1.cell? ⟨g, 2, none⟩ = some (.string ⟨xt.toArray⟩) := hown.cellAt 2 (by decide)
  have d0 : w1.cell? ⟨w.heap.size, 0, none⟩ = some (.int .i64 K) := (hb1.cell (by simp)).trans (by simp)
  have d2 : w1.cell? ⟨w.heap.size, 2, none⟩ = some (.string t) := (hb1.cell (by simp)).trans (by simp)
  rw [hv]
  clear hv hown
  go_wp2
  go_quiet (fail)
  go_wp2
  go_ret
  refine ⟨ret_bool ?_, below_drewN (((Below.refl _ _).alloc (Nat.le_refl _) _).trans (hb1.mono (by simp))) _⟩
  unfold sameTk
  rw [show (⟨xt.toArray⟩ : ByteArray).toList = xt by rw [Lib.toList_data], Lib.toList_data, Bool.eq_iff_iff]
  simp [and_assoc]
theorem alone_any (K A : Int) (t : ByteArray) (w : World) (hm : t.size ≤ 9223372036854775000) :
    Calls Tryz.prog 157 #[.agg #[.int .i64 K, .int .i64 A, .string t]] w fun e w' => e = .returned (.bool (aloneB K t.data.toList)) ∧ Below w.heap.size w w' := by
  obtain ⟨L, a, E, hr⟩ : ∃ L a E, scanS t.data.toList = (L, a, E) := ⟨_, _, _, rfl⟩
  by_cases hE : E = 0
  · subst hE
    match L, hr with
    | [x], hr =>
      rw [show aloneB K t.data.toList = decide (x.k = K ∧ x.a = 0 ∧ x.t = t.data.toList) by unfold aloneB; rw [hr]; rfl]
      exact alone_one K A t w hm x a hr
    | [], hr =>
      rw [show aloneB K t.data.toList = false by unfold aloneB; rw [hr]]
      exact alone_many K A t w hm _ a hr (by simp)
    | x :: y :: r, hr =>
      rw [show aloneB K t.data.toList = false by unfold aloneB; rw [hr]]
      exact alone_many K A t w hm _ a hr (by simp)
  · rw [show aloneB K t.data.toList = false by unfold aloneB; rw [hr]; split <;> simp_all]
    exact alone_err K A t w hm L a E hr hE
def joinL : List Tk → List UInt8
  | [] => []
  | [x] => x.t
  | x :: y :: r => x.t ++ 32 :: joinL (y :: r)
theorem joinL_snoc (L : List Tk) (x : Tk) (h : L ≠ []) : joinL (L ++ [x]) = joinL L ++ 32 :: x.t := by
  induction L with
  | nil => exact absurd rfl h
  | cons y r ih =>
    cases r with
    | nil => rfl
    | cons z r =>
      have := ih (by simp)
      simp only [List.cons_append] at this ⊢
      rw [joinL, this, joinL]; simp
def joinS (L : List Tk) : List UInt8 × Nat :=
  if L.all (fun x => aloneB x.k x.t) = true then (if 2000 < (joinL L).length then ([], 2) else (joinL L, 0)) else ([], 1)
theorem size_mk (l : List UInt8) : (⟨l.toArray⟩ : ByteArray).size = l.length := by show l.toArray.size = _; simp
theorem byteCells_append (a b : List UInt8) : Lib.byteCells (a ++ b) = Lib.byteCells a ++ Lib.byteCells b := by simp [Lib.byteCells]
def TokRow (w : World) (b off n : Nat) (L : List Tk) : Prop :=
  L.length = n ∧ ∀ i x, L[i]? = some x → w.cell? ⟨b, off + i * 3, none⟩ = some (.int .i64 x.k) ∧ w.cell? ⟨b, off + i * 3 + 1, none⟩ = some (.int .i64 x.a) ∧ w.cell? ⟨b, off + i * 3 + 2, none⟩ = some (.string ⟨x.t.toArray⟩)
theorem builder_below {T e : TypeId} {B b : Nat} {bs : List Value} {w w' : World} (h : Lib.IsBuilder T e B b bs w) (hb : Below w.heap.size w w') : Lib.IsBuilder T e B b bs w' := by
  have go : ∀ p, Lib.BuilderAt T e B b p bs w → Lib.BuilderAt T e B b p bs w' := by
    rintro p ⟨hB, v, hbk, hown, hne⟩
    exact ⟨hB, v, (hb.block b (ltS hbk)).trans hbk, owns_below hown hb, hne⟩
  rcases h with h | h
  · exact .inl (go _ h)
  · exact .inr (go _ h)
theorem take_snocT (L : List Tk) (k : Nat) (x : Tk) (h : L[k]? = some x) : L.take (k + 1) = L.take k ++ [x] := by
  rw [List.take_succ_eq_append_getElem (List.getElem?_eq_some_iff.1 h).1]
  simp [(List.getElem?_eq_some_iff.1 h).2]
theorem scanGo_len (f : Nat) : ∀ (a : Nat) (l : List UInt8) (acc : List Tk), (∀ x ∈ acc, x.t.length ≤ 22) → ∀ x ∈ (scanGo f a l acc).1, x.t.length ≤ 22 := by
  induction f with
  | zero => intro a l acc h; exact h
  | succ f ih =>
    intro a l acc h
    cases l with
    | nil => exact h
    | cons c r =>
      rw [scanGo]
      split
      · exact ih _ _ _ h
      · split
        · rename_i hw
          apply ih
          intro x hx
          rcases List.mem_append.1 hx with hx | hx
          · exact h x hx
          · simp at hx
            subst hx
            have h4 := tokL_kind (c :: r)
            have hz := wrongL_zero hw
            generalize tokL (c :: r) = p at *
            obtain ⟨K, N⟩ := p
            simp only at *
            unfold wrongL at hw
            simp only [hz, if_false] at hw
            have hN : (List.take N (c :: r)).length ≤ N := List.length_take_le _ _
            generalize List.take N (c :: r) = T at *
            split at hw
            · cases hw
            · rename_i hn
              show T.length ≤ 22
              omega
        · intro x hx; cases hx
theorem alone_len {K : Int} {l : List UInt8} (h : aloneB K l = true) : l.length ≤ 22 := by
  unfold aloneB at h
  split at h
  · rename_i x _ hs
    simp at h
    have hx : ∀ y ∈ (scanS l).1, y.t.length ≤ 22 := by
      unfold scanS
      split
      · intro y hy; cases hy
      · exact scanGo_len _ _ _ _ (by intro y hy; cases hy)
    have := hx x (by rw [hs]; simp)
    rw [h.2.2] at this
    exact this
  · cases h
theorem joinL_len (L : List Tk) (k : Nat) (hk : k ≤ L.length) (h : (L.take k).all (fun x => aloneB x.k x.t) = true) : (joinL (L.take k)).length ≤ 23 * k := by
  induction k with
  | zero => simp [joinL]
  | succ k ih =>
    have hx : L[k]? = some L[k] := List.getElem?_eq_getElem (by omega)
    rw [take_snocT L k _ hx] at h ⊢
    rw [List.all_append, Bool.and_eq_true] at h
    have h1 := ih (by omega) h.1
    have h2 := alone_len (show aloneB L[k].k L[k].t = true by simpa using h.2)
    by_cases e : L.take k = []
    · rw [e]; simp [joinL]; omega
    · rw [joinL_snoc _ _ e]; simp; omega
theorem join_some (b off n cap : Nat) (L : List Tk) (w : World) (hn : 0 < n) (hr : n * 32 ≤ 140737488355328) (hb : b < w.heap.size) (hL : TokRow w b off n L) (ht : ∀ x ∈ L, x.t.length ≤ 9223372036854775000) :
    Calls Tryz.prog 132 #[.slice (some ⟨b, off, none⟩) n cap] w fun e w' => e = .returned (.tuple #[.string ⟨(joinS L).1.toArray⟩, .int .i64 ((joinS L).2 : Nat)]) ∧ Below w.heap.size w w' := by
  obtain ⟨hlen, hcells⟩ := hL
  go_enter Tryz.func132, Tryz.ntmps132
  go_wp2
  go_loopw [9] (fun i wr => ∃ k : Nat, k ≤ n ∧ i = .int .i64 k ∧ Lib.IsBuilder 184 5 w.heap.size w.heap.size (Lib.byteCells (joinL (L.take k))) wr ∧ Below w.heap.size w wr ∧
      Hid ((L.take k).all (fun x => aloneB x.k x.t) = true)) (fun i _ => n - (intOf i).toNat)
  case atStart =>
    exact ⟨0, Nat.zero_le _, rfl, Lib.fresh_isBuilder 184 5 w, (Below.refl _ _).alloc (Nat.le_refl _) _, by simp [Hid]⟩
  case round =>
    obtain ⟨k, hk, rfl, hB, hnx, HA⟩ := hrel
    by_cases hlt : k < n
    · obtain ⟨x, hx⟩ : ∃ x, L[k]? = some x := ⟨L[k], List.getElem?_eq_getElem (by omega)⟩
      obtain ⟨e0, e1, e2⟩ := hcells k x hx
      have a0 := (hnx.cell (p := ⟨b, off + k * 3, none⟩) hb).trans e0
      have a1 := (hnx.cell (p := ⟨b, off + k * 3 + 1, none⟩) hb).trans e1
      have a2 := (hnx.cell (p := ⟨b, off + k * 3 + 2, none⟩) hb).trans e2
      have hal := fun W => alone_any x.k x.a ⟨x.t.toArray⟩ W (by rw [size_mk]; exact ht x (List.mem_of_getElem? hx))
      cases hx1 : aloneB x.k x.t
      · simp only [hx1] at hal
        clear e0 e1 e2 hcells
        go_wp2_with (go_at_call 157; refine (hal _).mono ?_; rintro e w2 ⟨rfl, hb2⟩)
        go_ret2
        have hJ : joinS L = ([], 1) := by
          unfold joinS
          rw [if_neg]
          intro h
          have := List.all_eq_true.1 h x (List.mem_of_getElem? hx)
          rw [hx1] at this; cases this
        rw [hJ]
        exact ⟨rfl, (hnx.alloc hnx.size _).trans (hb2.mono (by have := hnx.size; simp; omega))⟩
      · simp only [hx1] at hal
        clear e0 e1 e2 hcells
        have hsz := hnx.size
        have hsz1 : w.heap.size < wr.heap.size := by rcases hB with h | h <;> exact h.lt
        have HX : Hid (aloneB x.k x.t = true) := hx1
        have HL : Hid (L[k]? = some x) := hx
        have HB := builder_below hB ((Below.refl wr.heap.size wr).alloc (Nat.le_refl _) (.cells #[.int .i64 x.k, .int .i64 x.a, .string ⟨x.t.toArray⟩] 160))
        have hjl := joinL_len L k (by omega) HA.out
        have hxl := alone_len hx1
        have hk1 := take_snocT L k x hx
        clear hx hx1 hB
        have HK : Hid (L.take (k + 1) = L.take k ++ [x]) := hk1
        have HA1 : Hid ((L.take (k + 1)).all (fun x => aloneB x.k x.t) = true) := by
          show (L.take (k + 1)).all (fun x => aloneB x.k x.t) = true
          rw [hk1, List.all_append, HA.out]; simpa using HX.out
        clear hk1 HA
        have hxs := size_mk x.t
        have hjc := Lib.byteCells_length (joinL (L.take k))
        by_cases hk0 : 0 < k
        · go_wp2_with (go_at_call 157; refine (hal _).mono ?_; rintro e w2 ⟨rfl, hb2⟩)
          have hbl : w2.heap[wr.heap.size]? = some (.cells #[.int .i64 x.k, .int .i64 x.a, .string ⟨x.t.toArray⟩] 160 (0, 0)) := (hb2.block _ (by simp)).trans (heap_alloc_new _ _)
          have hs2 : wr.heap.size + 1 ≤ w2.heap.size := by have := hb2.size; simpa using this
          refine (writeByte_any w.heap.size w.heap.size _ 32 _ (builder_below HB hb2) (by rw [hjc]; omega) (by omega)).mono ?_
          rintro e w3 ⟨rfl, h3, hb3, ho3⟩
          have hbl3 := ho3 _ _ hbl (by simp; omega) (by intro c fz; simp)
          have c3 : w3.cell? ⟨wr.heap.size, 2, none⟩ = some (.string ⟨x.t.toArray⟩) := by rw [Lib.cell_of_heap hbl3]; rfl
          have hs3 := hb3.size
          go_wp2_with fail
          refine (writeString_any w.heap.size w.heap.size _ ⟨x.t.toArray⟩ _ (.inr h3) (by simp only [List.length_append, List.length_cons, List.length_nil]; rw [hjc, hxs]; omega) (by omega)).mono ?_
          rintro e w4 ⟨rfl, h4, hb4, ho4⟩
          have R : Lib.IsBuilder 184 5 w.heap.size w.heap.size (Lib.byteCells (joinL (L.take (k + 1)))) w4 := by
            have e : joinL (L.take (k + 1)) = joinL (L.take k) ++ ([32] ++ x.t) := by
              rw [HK.out, joinL_snoc _ _ (by intro h; have := congrArg List.length h; rw [List.length_take, Nat.min_eq_left (by omega)] at this; simp at this; omega)]; rfl
            rw [e, byteCells_append, byteCells_append, ← List.append_assoc]
            exact .inr h4
          have hN4 : Below w.heap.size w w4 := (((hnx.alloc hsz _).trans (hb2.mono (by simp; omega))).trans hb3).trans hb4
          clear h3 h4 hb2 hb3 hb4 ho3 ho4 HB hal hbl hbl3 c3 a0 a1 a2
          go_wp2
          go_roundw
          case rel => exact ⟨k + 1, by omega, by go_num, R, hN4, HA1⟩
          case measure => simp [intOf]; omega
        · go_wp2_with (go_at_call 157; refine (hal _).mono ?_; rintro e w2 ⟨rfl, hb2⟩; have c2 : w2.cell? ⟨wr.heap.size, 2, none⟩ = some (.string ⟨x.t.toArray⟩) := (hb2.cell (by simp)).trans (by simp))
          have hs2 : wr.heap.size + 1 ≤ w2.heap.size := by have := hb2.size; simpa using this
          refine (writeString_any w.heap.size w.heap.size _ ⟨x.t.toArray⟩ _ (builder_below HB hb2) (by rw [hjc, hxs]; omega) (by omega)).mono ?_
          rintro e w4 ⟨rfl, h4, hb4, ho4⟩
          have R : Lib.IsBuilder 184 5 w.heap.size w.heap.size (Lib.byteCells (joinL (L.take (k + 1)))) w4 := by
            have e : joinL (L.take (k + 1)) = x.t := by
              rw [HK.out, show k = 0 by omega]; rfl
            have e0 : joinL (L.take k) = [] := by rw [show k = 0 by omega]; rfl
            rw [e0] at h4
            rw [e]
            exact .inr h4
          have hN4 : Below w.heap.size w w4 := ((hnx.alloc hsz _).trans (hb2.mono (by simp; omega))).trans hb4
          clear h4 hb2 hb4 ho4 HB hal c2 a0 a1 a2
          go_wp2
          go_roundw
          case rel => exact ⟨k + 1, by omega, by go_num, R, hN4, HA1⟩
          case measure => simp [intOf]; omega
    · have hkn : k = n := by omega
      have HJ : Hid (L.take k = L) := List.take_of_length_le (by omega)
      have HJ2 : Hid (joinS L = if 2000 < (joinL L).length then ([], 2) else (joinL L, 0)) := by
        show joinS L = _
        unfold joinS
        rw [if_pos]
        have := HA.out
        rw [HJ.out] at this; exact this
      have hB' := hB
      rw [HJ.out] at hB'
      clear hB HA hcells
      have hjl : (joinL L).length = (joinL L).length := rfl
      by_cases h2 : 2000 < (joinL L).length
      · have hlen2 := Tryz.Builder_Len w.heap.size w.heap.size _ wr hB'
        rw [Lib.byteCells_length] at hlen2
        clear hkn hjl
        go_wp2_with (go_at_call 160; refine hlen2.mono ?_; rintro e w' ⟨rfl, hw'⟩; obtain rfl := hw'.symm; clear hw')
        go_ret2
        rw [HJ2.out, if_pos h2]
        exact ⟨rfl, hnx⟩
      · have hlen2 := Tryz.Builder_Len w.heap.size w.heap.size _ wr hB'
        rw [Lib.byteCells_length] at hlen2
        clear hkn hjl
        go_wp2_with (first | (go_at_call 160; refine hlen2.mono ?_; rintro e w' ⟨rfl, hw'⟩; obtain rfl := hw'.symm; clear hw') | (go_at_call 161; refine (Tryz.Builder_String_any w.heap.size w.heap.size (joinL L) _ hB' (by exact hnx.size)).mono ?_; rintro e w5 ⟨rfl, hb5⟩))
        go_ret2
        rw [HJ2.out, if_neg h2]
        exact ⟨rfl, hnx.trans hb5⟩
def placesL (s : List UInt8) : Nat → List Tk → Prop
  | _, [] => True
  | p, x :: r => ∃ A : Nat, x.a = (A : Int) ∧ p ≤ A ∧ 1 ≤ x.t.length ∧ A + x.t.length ≤ s.length ∧ x.t = (s.drop A).take x.t.length ∧ placesL s (A + x.t.length) r
theorem placesL_mono (s : List UInt8) (p q : Nat) (h : q ≤ p) (L : List Tk) (hL : placesL s p L) : placesL s q L := by
  cases L with
  | nil => trivial
  | cons x r => obtain ⟨A, h1, h2, h3⟩ := hL; exact ⟨A, h1, by omega, h3⟩
theorem scanGo_places (s : List UInt8) (f : Nat) : ∀ (a : Nat) (l : List UInt8) (acc : List Tk), a ≤ s.length → l = s.drop a → (scanGo f a l acc).2.2 = 0 → ∃ new, (scanGo f a l acc).1 = acc ++ new ∧ placesL s a new := by
  induction f with
  | zero => intro a l acc _ _ _; exact ⟨[], by simp [scanGo], trivial⟩
  | succ f ih =>
    intro a l acc ha hl h0
    cases l with
    | nil => exact ⟨[], by simp [scanGo], trivial⟩
    | cons c r =>
      have hlen : (c :: r).length = s.length - a := by rw [hl]; simp
      simp only [List.length_cons] at hlen
      have hr : r = s.drop (a + 1) := by rw [← List.drop_drop, ← hl]; rfl
      rw [scanGo] at h0 ⊢
      by_cases hb : isB c = true
      · rw [if_pos hb] at h0 ⊢
        obtain ⟨new, h1, h2⟩ := ih (a + 1) r acc (by omega) hr h0
        exact ⟨new, h1, placesL_mono s _ _ (by omega) new h2⟩
      · rw [if_neg hb] at h0 ⊢
        by_cases hw : wrongL (tokL (c :: r)).1 ((c :: r).take (tokL (c :: r)).2) = 0
        · rw [if_pos hw] at h0 ⊢
          have hpos := tokL_pos c r (wrongL_zero hw)
          have hle := tokL_le (c :: r)
          generalize tokL (c :: r) = p at *
          obtain ⟨K, N⟩ := p
          simp only [List.length_cons] at *
          obtain ⟨new, h1, h2⟩ := ih (a + N) _ _ (by omega) (by rw [hl, List.drop_drop]) h0
          have hT : ((c :: r).take N).length = N := by rw [List.length_take, List.length_cons]; omega
          refine ⟨⟨(K : Nat), (a : Nat), (c :: r).take N⟩ :: new, by rw [h1]; simp, a, rfl, Nat.le_refl _, ?_, ?_, ?_, ?_⟩
          · show 1 ≤ ((c :: r).take N).length; omega
          · show a + ((c :: r).take N).length ≤ s.length; omega
          · show (c :: r).take N = (s.drop a).take ((c :: r).take N).length; rw [hT, ← hl]
          · show placesL s (a + ((c :: r).take N).length) new; rw [hT]; exact h2
        · rw [if_neg hw] at h0
          exact absurd h0 hw
theorem hide {p : Prop} (h : p) : Hid p := h
theorem isBars_cons (c : UInt8) (r : List UInt8) : isBars (c :: r) = (decide (c = 124) && decide (r.head? = some 124)) := by
  unfold isBars Lib.hasPrefix
  cases r with
  | nil => simp [List.isPrefixOf]
  | cons d r => simp [List.isPrefixOf]; rw [Bool.eq_iff_iff]; simp [eq_comm (a := (124 : UInt8))]
theorem isB_cases {c : UInt8} (h : isB c = true) : ((c.toNat : Int) == 32) = true ∨ (((c.toNat : Int) == 32) = false ∧ ((c.toNat : Int) == 9) = true) ∨ (((c.toNat : Int) == 32) = false ∧ ((c.toNat : Int) == 9) = false ∧ ((c.toNat : Int) == 10) = true) := by
  unfold isB at h
  cases h1 : ((c.toNat : Int) == 32) <;> cases h2 : ((c.toNat : Int) == 9) <;> cases h3 : ((c.toNat : Int) == 10) <;> simp_all
def isTokB (K : Int) (l : List UInt8) : Bool := decide (l ≠ [] ∧ l.length ≤ 2000 ∧ ((tokL l).1 : Int) = K ∧ (tokL l).2 = l.length ∧ wrongL (tokL l).1 l = 0)
theorem tokL_blank (c : UInt8) (r : List UInt8) (h : isB c = true) : tokL (c :: r) = (0, 0) := by
  have hc : c = 32 ∨ c = 9 ∨ c = 10 := by
    rcases isB_cases h with h | ⟨_, h⟩ | ⟨_, _, h⟩
    · left; apply UInt8.toNat_inj.1; have := eq_of_beq h; simp; omega
    · right; left; apply UInt8.toNat_inj.1; have := eq_of_beq h; simp; omega
    · right; right; apply UInt8.toNat_inj.1; have := eq_of_beq h; simp; omega
  rcases hc with rfl | rfl | rfl
  all_goals
    rw [tokL, if_neg (by decide), if_neg (by decide), if_neg (by decide), if_neg (by rw [isBars_cons]; simp), if_neg (by decide)]
theorem isTok_iff (K : Int) (l : List UInt8) : aloneB K l = isTokB K l := by
  rw [Bool.eq_iff_iff]
  constructor
  · intro h
    have hlen := alone_len h
    unfold aloneB at h
    split at h
    · rename_i x p hs
      simp only [decide_eq_true_eq] at h
      obtain ⟨hk, ha, ht⟩ := h
      cases l with
      | nil => simp [scanS, scanL, scanGo] at hs
      | cons c r =>
        have hs' : scanL 0 (c :: r) [] = ([x], p, 0) := by
          have : scanS (c :: r) = scanL 0 (c :: r) [] := by unfold scanS; rw [if_neg (by omega)]
          rw [← this]; exact hs
        cases hB : isB c
        · by_cases hw : wrongL (tokL (c :: r)).1 ((c :: r).take (tokL (c :: r)).2) = 0
          · have h1 := scanL_tok 0 c r [] hB hw
            have hle := tokL_le (c :: r)
            rw [hs'] at h1
            obtain ⟨new, h2, _⟩ := scanGo_places (c :: r) _ (0 + (tokL (c :: r)).2) _ ([] ++ [⟨((tokL (c :: r)).1 : Nat), ((0 : Nat) : Int), (c :: r).take (tokL (c :: r)).2⟩]) (by omega) (by rw [Nat.zero_add]) (by unfold scanL at h1; rw [← h1])
            have h3 : ([x] : List Tk) = [⟨((tokL (c :: r)).1 : Nat), ((0 : Nat) : Int), (c :: r).take (tokL (c :: r)).2⟩] ++ new := by
              have := congrArg Prod.fst h1
              unfold scanL at this
              rw [h2] at this
              simpa using this
            simp only [List.cons_append, List.nil_append, List.cons.injEq] at h3
            obtain ⟨rfl, _⟩ := h3
            simp only at hk ht
            have hN : (tokL (c :: r)).2 = (c :: r).length := by
              have := congrArg List.length ht
              rw [List.length_take] at this; omega
            rw [ht] at hw
            simp only [isTokB, decide_eq_true_eq]
            exact ⟨by simp, by omega, hk, hN, hw⟩
          · have h1 := scanL_bad 0 c r [] hB hw
            rw [hs'] at h1
            simp at h1
        · have h1 := scanL_blank 0 c r [] hB
          rw [hs'] at h1
          obtain ⟨new, h2, h3⟩ := scanGo_places (c :: r) (r.length + 1) 1 r [] (by simp) rfl (by unfold scanL at h1; rw [← h1])
          have h4 : ([x] : List Tk) = new := by
            have := congrArg Prod.fst h1
            unfold scanL at this
            rw [h2] at this
            simpa using this
          subst h4
          obtain ⟨A, e1, e2, _⟩ := h3
          rw [ha] at e1
          omega
    · cases h
  · intro h
    simp only [isTokB, decide_eq_true_eq] at h
    obtain ⟨h0, hlen, hk, hN, hw⟩ := h
    cases l with
    | nil => exact absurd rfl h0
    | cons c r =>
      have hB : isB c = false := by
        cases hB : isB c
        · rfl
        · rw [tokL_blank c r hB] at hw; simp [wrongL] at hw
      have h1 := scanL_tok 0 c r [] hB (by rw [hN, List.take_of_length_le (Nat.le_refl _)]; exact hw)
      rw [hN, List.take_of_length_le (Nat.le_refl _), List.drop_eq_nil_of_le (Nat.le_refl _), scanL_nil] at h1
      unfold aloneB
      rw [show scanS (c :: r) = scanL 0 (c :: r) [] by unfold scanS; rw [if_neg (by omega)], h1]
      simp [hk]
theorem mk_append (a b : List UInt8) : ((⟨a.toArray⟩ : ByteArray) ++ ⟨b.toArray⟩) = ⟨(a ++ b).toArray⟩ := by
  apply ByteArray.ext
  simp
def quotB (S : List UInt8) : Bool := decide (S.length ≤ 20) && S.all isQ
theorem runL_quot (S : List UInt8) (h : S.all isQ = true) : runL isQ (S ++ [39]) = S.length := by
  induction S with
  | nil => rfl
  | cons c r ih =>
    rw [List.all_cons, Bool.and_eq_true] at h
    rw [List.cons_append, runL_cons, if_pos h.1, ih h.2]; rfl
theorem runL_quot_lt (S : List UInt8) (h : S.all isQ = false) : runL isQ (S ++ [39]) < S.length := by
  induction S with
  | nil => cases h
  | cons c r ih =>
    rw [List.cons_append, runL_cons]
    by_cases hc : isQ c = true
    · rw [if_pos hc]
      rw [List.all_cons, hc, Bool.true_and] at h
      have := ih h
      simp only [List.length_cons]; omega
    · rw [if_neg hc]; simp
theorem quot_alone (S : List UInt8) : aloneB 3 (39 :: (S ++ [39])) = quotB S := by
  rw [isTok_iff, Bool.eq_iff_iff]
  have l39 : isL 39 = false := by decide
  have d39 : isD 39 = false := by decide
  have hlen : (39 :: (S ++ [39])).length = S.length + 2 := by simp
  simp only [isTokB, quotB, decide_eq_true_eq, Bool.and_eq_true]
  cases hA : S.all isQ
  · have hlt := runL_quot_lt S hA
    constructor
    · rintro ⟨_, _, h3, h4, _⟩
      rw [tokL, if_neg (by simp [l39]), if_neg (by simp [d39]), if_pos rfl] at h3 h4
      split at h3
      · rename_i hz
        rw [if_pos hz] at h4
        simp only at h4
        omega
      · simp at h3
    · rintro ⟨_, h⟩; cases h
  · have hrun := runL_quot S hA
    have hz : (S ++ [39])[runL isQ (S ++ [39])]? = some 39 := by rw [hrun, List.getElem?_append_right (by omega)]; simp
    have ht : tokL (39 :: (S ++ [39])) = (3, S.length + 2) := by
      rw [tokL, if_neg (by simp [l39]), if_neg (by simp [d39]), if_pos rfl, if_pos hz, hrun]
    rw [ht]
    simp only [hlen]
    constructor
    · rintro ⟨_, _, _, _, hw⟩
      refine ⟨?_, trivial⟩
      rcases Nat.lt_or_ge 20 S.length with h | h
      · have : wrongL 3 (39 :: (S ++ [39])) = 2 := by
          unfold wrongL
          rw [hlen, if_neg (by omega), if_pos (by omega)]
        rw [this] at hw; cases hw
      · exact h
    · rintro ⟨h, _⟩
      refine ⟨by simp, by omega, rfl, trivial, ?_⟩
      unfold wrongL
      simp only [hlen]
      rw [if_neg (by omega), if_neg (by omega), if_neg (by omega)]
theorem quot_join (S : List UInt8) (a : Int) : (joinS [⟨3, a, 39 :: (S ++ [39])⟩]).2 = if quotB S = true then 0 else 1 := by
  unfold joinS
  have e : ([⟨3, a, 39 :: (S ++ [39])⟩] : List Tk).all (fun x => aloneB x.k x.t) = quotB S := by simp [quot_alone]
  rw [e]
  by_cases h : quotB S = true
  · rw [if_pos h, if_pos h]
    have : ¬ 2000 < (joinL [⟨3, a, 39 :: (S ++ [39])⟩]).length := by
      simp only [quotB, Bool.and_eq_true, decide_eq_true_eq] at h
      simp [joinL]; omega
    rw [if_neg this]
  · rw [if_neg h, if_neg h]
def isInt (n : Int) : Bool := decide ((-999999999 : Int) ≤ n) && decide (n ≤ 999999999)
theorem isInt_any (n : Int) (w : World) :
    Calls Tryz.prog 152 #[.int .i64 n] w fun e w' => e = .returned (.bool (isInt n)) ∧ w' = w := by
  go_enter Tryz.func152, Tryz.ntmps152
  go_wp2
  all_goals go_ret
  all_goals exact ⟨ret_bool (by simp [isInt, *] <;> omega), rfl⟩
theorem quoted (s : ByteArray) : ((⟨#[39]⟩ : ByteArray) ++ s ++ ⟨#[39]⟩) = ⟨(39 :: (s.data.toList ++ [39])).toArray⟩ := by
  obtain ⟨⟨l⟩⟩ := s
  have := mk_append ([39] ++ l) [39]
  rw [← mk_append] at this
  simpa using this
theorem quot_row (s : ByteArray) (w : World) : TokRow (w.alloc (.cells #[.int .i64 3, .int .i64 0, .string ((⟨#[39]⟩ : ByteArray) ++ s ++ ⟨#[39]⟩)] 160)) w.heap.size 0 1 [⟨3, 0, 39 :: (s.data.toList ++ [39])⟩] := by
  refine ⟨rfl, ?_⟩
  intro i x hx
  match i, hx with
  | 0, hx =>
    simp only [List.getElem?_cons_zero, Option.some.injEq] at hx
    subst hx
    rw [quoted]
    refine ⟨by simp, by simp, by simp⟩
theorem quot_call (s : ByteArray) (w : World) (hs : s.size ≤ 140737488355328) :
    Calls Tryz.prog 132 #[.slice (some ⟨w.heap.size, 0, none⟩) 1 1] (w.alloc (.cells #[.int .i64 3, .int .i64 0, .string ((⟨#[39]⟩ : ByteArray) ++ s ++ ⟨#[39]⟩)] 160)) fun e w' =>
      (∃ S : List UInt8, e = .returned (.tuple #[.string ⟨S.toArray⟩, .int .i64 ((if quotB s.data.toList = true then 0 else 1 : Nat) : Int)])) ∧ Below w.heap.size w w' := by
  have hsz : s.data.toList.length = s.size := by simp
  refine (join_some w.heap.size 0 1 1 [⟨3, 0, 39 :: (s.data.toList ++ [39])⟩] _ (by decide) (by decide) (by simp) (quot_row s w) (by intro x hx; simp at hx; subst hx; simp; omega)).mono ?_
  rintro e w' ⟨rfl, hb⟩
  rw [quot_join]
  exact ⟨⟨_, rfl⟩, ((Below.refl _ _).alloc (Nat.le_refl _) _).trans (hb.mono (by simp))⟩
theorem isQuot_any (s : ByteArray) (w : World) (hs : s.size ≤ 140737488355328) :
    Calls Tryz.prog 153 #[.string s] w fun e w' => e = .returned (.bool (quotB s.data.toList)) ∧ Below w.heap.size w w' := by
  have hj := quot_call s w hs
  cases hq : quotB s.data.toList
  all_goals
    rw [hq] at hj
    clear hq
    go_enter Tryz.func153, Tryz.ntmps153
    go_wp2_with (go_at_call 132; refine hj.mono ?_; rintro e w' ⟨⟨S, rfl⟩, hb⟩)
    go_ret
    exact ⟨rfl, hb⟩
def chkV (K N : Int) (S : List UInt8) : Nat :=
  if K = 0 then (if N = 0 ∧ S = [] then 0 else 3)
  else if K = 1 then (if isInt N = true ∧ S = [] then 0 else 3)
  else if K = 2 then (if N = 0 ∧ quotB S = true then 0 else 3)
  else if K = 3 then (if (N = 0 ∨ N = 1) ∧ S = [] then 0 else 3)
  else 7
theorem empty_iff (s : ByteArray) : s.toList.isEmpty = decide (s.data.toList = []) := by
  rw [Lib.toList_data]; cases s.data.toList <;> simp
theorem check_0 (N : Int) (s : ByteArray) (w : World) :
    Calls Tryz.prog 124 #[.agg #[.int .i64 0, .int .i64 N, .string s]] w fun e w' => e = .returned (.int .i64 ((if (N == 0) = true ∧ s.toList.isEmpty = true then 0 else 3 : Nat) : Int)) ∧ Below w.heap.size w w' := by
  cases h1 : (N == 0) <;> cases h2 : s.toList.isEmpty
  all_goals
    go_enter Tryz.func124, Tryz.ntmps124
    go_wp2
    go_ret
    exact ⟨rfl, (Below.refl _ _).alloc (Nat.le_refl _) _⟩
theorem check_1 (N : Int) (s : ByteArray) (w : World) :
    Calls Tryz.prog 124 #[.agg #[.int .i64 1, .int .i64 N, .string s]] w fun e w' => e = .returned (.int .i64 ((if isInt N = true ∧ s.toList.isEmpty = true then 0 else 3 : Nat) : Int)) ∧ Below w.heap.size w w' := by
  have hi := isInt_any N
  cases h1 : isInt N <;> cases h2 : s.toList.isEmpty
  all_goals
    rw [h1] at hi
    clear h1
    go_enter Tryz.func124, Tryz.ntmps124
    go_wp2_with (go_at_call 152; refine (hi _).mono ?_; rintro e w' ⟨rfl, hw'⟩; obtain rfl := hw'.symm; clear hw')
    go_ret
    exact ⟨rfl, (Below.refl _ _).alloc (Nat.le_refl _) _⟩
theorem check_2 (N : Int) (s : ByteArray) (w : World) (hs : s.size ≤ 140737488355328) :
    Calls Tryz.prog 124 #[.agg #[.int .i64 2, .int .i64 N, .string s]] w fun e w' => e = .returned (.int .i64 ((if (N == 0) = true ∧ quotB s.data.toList = true then 0 else 3 : Nat) : Int)) ∧ Below w.heap.size w w' := by
  have hi := fun W => isQuot_any s W hs
  cases h1 : (N == 0) <;> cases h2 : quotB s.data.toList
  all_goals
    rw [h2] at hi
    clear h2
    go_enter Tryz.func124, Tryz.ntmps124
    go_wp2_with (go_at_call 153; refine (hi _).mono ?_; rintro e w' ⟨rfl, hb⟩)
    go_ret
    first
      | exact ⟨rfl, (Below.refl _ _).alloc (Nat.le_refl _) _⟩
      | exact ⟨rfl, ((Below.refl _ _).alloc (Nat.le_refl _) _).trans (hb.mono (by simp))⟩
theorem check_3 (N : Int) (s : ByteArray) (w : World) :
    Calls Tryz.prog 124 #[.agg #[.int .i64 3, .int .i64 N, .string s]] w fun e w' => e = .returned (.int .i64 ((if ((N == 0) = true ∨ (N == 1) = true) ∧ s.toList.isEmpty = true then 0 else 3 : Nat) : Int)) ∧ Below w.heap.size w w' := by
  cases h1 : (N == 0) <;> cases h3 : (N == 1) <;> cases h2 : s.toList.isEmpty
  all_goals
    go_enter Tryz.func124, Tryz.ntmps124
    go_wp2
    go_ret
    exact ⟨rfl, (Below.refl _ _).alloc (Nat.le_refl _) _⟩
theorem check_other (K N : Int) (s : ByteArray) (w : World) (h0 : (K == 0) = false) (h1 : (K == 1) = false) (h2 : (K == 2) = false) (h3 : (K == 3) = false) :
    Calls Tryz.prog 124 #[.agg #[.int .i64 K, .int .i64 N, .string s]] w fun e w' => e = .returned (.int .i64 7) ∧ Below w.heap.size w w' := by
  go_enter Tryz.func124, Tryz.ntmps124
  go_wp2
  go_ret
  exact ⟨rfl, (Below.refl _ _).alloc (Nat.le_refl _) _⟩
theorem check_any (K N : Int) (s : ByteArray) (w : World) (hs : s.size ≤ 140737488355328) :
    Calls Tryz.prog 124 #[.agg #[.int .i64 K, .int .i64 N, .string s]] w fun e w' => e = .returned (.int .i64 (chkV K N s.data.toList : Nat)) ∧ Below w.heap.size w w' := by
  by_cases h0 : K = 0
  · subst h0
    have := check_0 N s w
    simp only [empty_iff, beq_iff_eq, decide_eq_true_eq] at this
    simpa only [chkV, if_true] using this
  by_cases h1 : K = 1
  · subst h1
    have := check_1 N s w
    simp only [empty_iff, decide_eq_true_eq] at this
    simpa [chkV] using this
  by_cases h2 : K = 2
  · subst h2
    have := check_2 N s w hs
    simp only [beq_iff_eq] at this
    simpa [chkV] using this
  by_cases h3 : K = 3
  · subst h3
    have := check_3 N s w
    simp only [empty_iff, beq_iff_eq, decide_eq_true_eq] at this
    simpa [chkV] using this
  rw [show chkV K N s.data.toList = 7 by simp [chkV, h0, h1, h2, h3]]
  exact check_other K N s w (by simp [h0]) (by simp [h1]) (by simp [h2]) (by simp [h3])
theorem var_keep {P : Program} {W W' : World} {n : String} {cs : Array Value} (h : Below W.heap.size W W') (hv : W.var? P n = some cs) : W'.var? P n = some cs := by
  unfold World.var? at hv ⊢
  cases hg : P.globalNamed n with
  | none => rw [hg] at hv; cases hv
  | some g =>
    rw [hg] at hv
    simp only [Option.bind_some] at hv ⊢
    have hlt : g < W.heap.size := by
      rcases Nat.lt_or_ge g W.heap.size with h1 | h1
      · exact h1
      · rw [Array.getElem?_eq_none h1] at hv; cases hv
    rw [h.block g hlt]
    exact hv
def Laid (w : World) : Prop :=
  Lib.TabIs Tryz.prog w "internal/strconv.uint64pow10" .u64 Lib.pow10Tab ∧ (∃ tp p, w.var? Tryz.prog "strconv.ErrSyntax" = some #[.iface tp p]) ∧ (∃ tp p, w.var? Tryz.prog "strconv.ErrRange" = some #[.iface tp p])
theorem Laid.below {w w' : World} (h : Laid w) (hb : Below w.heap.size w w') : Laid w' := by
  obtain ⟨h1, ⟨tp, p, h2⟩, tq, q, h3⟩ := h
  exact ⟨var_keep hb h1, ⟨tp, p, var_keep hb h2⟩, tq, q, var_keep hb h3⟩
theorem Laid.of_below {B : Nat} {w w' : World} (h : Laid w) (hb : Below B w w') (hB : w.heap.size ≤ B) : Laid w' := h.below (hb.mono hB)
theorem below_grow (w : World) (q : Nat) (os : Array Obj) : Below w.heap.size w (Sort.grow (w.drewN q) os) := by
  refine ⟨rfl, rfl, rfl, ?_, ?_⟩
  · show w.heap.size ≤ (w.heap ++ os).size
    simp
  · intro k hk
    show (w.heap ++ os)[k]? = w.heap[k]?
    rw [Array.getElem?_append_left hk]
theorem itoa_any (n : Int) (w : World) (h0 : -9223372036854775808 ≤ n) (h1 : n ≤ 9223372036854775807) (hl : Laid w) :
    Calls Tryz.prog 163 #[.int .i64 n] w fun e w' => e = .returned (.string ⟨(Lib.itoa n).toArray⟩) ∧ Below w.heap.size w w' := by
  refine (Tryz.strconv_Itoa n h0 h1 w hl.1).mono ?_
  rintro e w' ⟨rfl, k, os, rfl⟩
  exact ⟨rfl, below_grow w k os⟩
theorem decDigits_len : ∀ (k u : Nat), u < 10 ^ (k + 1) → 1 ≤ (Lib.decDigits u).length ∧ (Lib.decDigits u).length ≤ k + 1 := by
  intro k
  induction k with
  | zero =>
    intro u h
    rw [Lib.decDigits, dif_pos (by simpa using h)]
    simp
  | succ k ih =>
    intro u h
    rw [Lib.decDigits]
    split
    · simp
    · have := ih (u / 10) (by rw [Nat.pow_succ] at h; omega)
      simp; omega
def tenL (n : Int) : List UInt8 := Lib.repeatL [48] (10 - (Lib.itoa n).length) ++ Lib.itoa n
theorem ten_any (n : Int) (w : World) (h0 : 0 ≤ n) (h1 : n ≤ 1999999999) (hl : Laid w) :
    Calls Tryz.prog 164 #[.int .i64 n] w fun e w' => e = .returned (.string ⟨(tenL n).toArray⟩) ∧ Below w.heap.size w w' := by
  have hi := itoa_any n w (by omega) (by omega) hl
  have hlen : (Lib.itoa n).length ≤ 10 := by
    unfold Lib.itoa
    rw [if_neg (by omega)]
    exact (decDigits_len 9 n.toNat (by omega)).2
  have ht : tenL n = Lib.repeatL [48] (10 - (Lib.itoa n).length) ++ Lib.itoa n := rfl
  obtain ⟨D, hD⟩ : ∃ D, Lib.itoa n = D := ⟨_, rfl⟩
  rw [hD] at hi hlen ht
  have HT := hide ht
  clear hD ht
  have hsz := size_mk D
  have hr := fun W => Tryz.strings_Repeat ⟨#[48]⟩ (10 - D.length) W (by omega) (by show 1 * (10 - D.length) ≤ _; omega)
  have hc : ((10 - D.length : Nat) : Int) = 10 - (D.length : Int) := by omega
  rw [hc] at hr
  have hrl : (Lib.repeatL [48] (10 - D.length)).length = 10 - D.length := by rw [Lib.repeatL_length]; simp
  obtain ⟨R, hR⟩ : ∃ R, Lib.repeatL [48] (10 - D.length) = R := ⟨_, rfl⟩
  have hr2 : ∀ W : World, Calls Tryz.prog 179 #[.string ⟨#[48]⟩, .int .i64 (10 - (D.length : Int))] W fun e w' => e = .returned (.string ⟨R.toArray⟩) ∧ Below W.heap.size W w' := by
    intro W; have := hr W; rw [← hR]; exact this
  rw [hR] at hrl
  have HR := hide hR
  clear hR hr hc
  have hsr := size_mk R
  go_enter Tryz.func164, Tryz.ntmps164
  go_wp2_with (first | (go_at_call 163; refine hi.mono ?_; rintro e w1 ⟨rfl, hb1⟩) | (go_at_call 179; refine (hr2 _).mono ?_; rintro e w2 ⟨rfl, hb2⟩))
  go_ret
  rw [HT.out, HR.out, ← mk_append]
  exact ⟨rfl, hb1.trans (hb2.mono hb1.size)⟩
def keyV (K N : Int) (S : List UInt8) : List UInt8 :=
  if K = 1 then 49 :: tenL (N + 1000000000)
  else if K = 2 then 50 :: S
  else if K = 3 then 51 :: Lib.itoa N
  else [48]
theorem chk_zero {K N : Int} {S : List UInt8} (h : chkV K N S = 0) :
    (K = 0 ∧ N = 0 ∧ S = []) ∨ (K = 1 ∧ (-999999999 ≤ N ∧ N ≤ 999999999) ∧ S = []) ∨ (K = 2 ∧ N = 0 ∧ S.length ≤ 20 ∧ S.all isQ = true) ∨ (K = 3 ∧ (N = 0 ∨ N = 1) ∧ S = []) := by
  unfold chkV at h
  by_cases h0 : K = 0
  · rw [if_pos h0] at h
    by_cases h1 : N = 0 ∧ S = []
    · exact Or.inl ⟨h0, h1⟩
    · rw [if_neg h1] at h; cases h
  rw [if_neg h0] at h
  by_cases h0 : K = 1
  · rw [if_pos h0] at h
    by_cases h1 : isInt N = true ∧ S = []
    · refine Or.inr (Or.inl ⟨h0, ?_, h1.2⟩)
      have := h1.1
      simp only [isInt, Bool.and_eq_true, decide_eq_true_eq] at this
      exact this
    · rw [if_neg h1] at h; cases h
  rw [if_neg h0] at h
  by_cases h0 : K = 2
  · rw [if_pos h0] at h
    by_cases h1 : N = 0 ∧ quotB S = true
    · refine Or.inr (Or.inr (Or.inl ⟨h0, h1.1, ?_⟩))
      have := h1.2
      simp only [quotB, Bool.and_eq_true, decide_eq_true_eq] at this
      exact this
    · rw [if_neg h1] at h; cases h
  rw [if_neg h0] at h
  by_cases h0 : K = 3
  · rw [if_pos h0] at h
    by_cases h1 : (N = 0 ∨ N = 1) ∧ S = []
    · exact Or.inr (Or.inr (Or.inr ⟨h0, h1⟩))
    · rw [if_neg h1] at h; cases h
  rw [if_neg h0] at h; cases h
theorem key_bad (K N : Int) (s : ByteArray) (w : World) (E : Nat) (hc : ∀ W : World, Calls Tryz.prog 124 #[.agg #[.int .i64 K, .int .i64 N, .string s]] W fun e w' => e = .returned (.int .i64 (E : Nat)) ∧ Below W.heap.size W w') (hE : ((E : Int) != 0) = true) :
    Calls Tryz.prog 142 #[.agg #[.int .i64 K, .int .i64 N, .string s]] w fun e w' => e = .returned (.tuple #[.string ⟨#[]⟩, .int .i64 (E : Nat)]) ∧ Below w.heap.size w w' := by
  go_enter Tryz.func142, Tryz.ntmps142
  go_wp2_with (go_at_call 124; refine (hc _).mono ?_; rintro e w1 ⟨rfl, hb1⟩)
  go_ret2
  exact ⟨rfl, ((Below.refl _ _).alloc (Nat.le_refl _) _).trans (hb1.mono (by simp))⟩
theorem itoa_0 : Lib.itoa 0 = [48] := by simp [Lib.itoa, Lib.decDigits]
theorem itoa_1 : Lib.itoa 1 = [49] := by simp [Lib.itoa, Lib.decDigits]
theorem itoa_2 : Lib.itoa 2 = [50] := by simp [Lib.itoa, Lib.decDigits]
theorem itoa_3 : Lib.itoa 3 = [51] := by simp [Lib.itoa, Lib.decDigits]
theorem key_0 (N : Int) (s : ByteArray) (w : World) (hl : Laid w) (hc : ∀ W : World, Calls Tryz.prog 124 #[.agg #[.int .i64 0, .int .i64 N, .string s]] W fun e w' => e = .returned (.int .i64 0) ∧ Below W.heap.size W w') :
    Calls Tryz.prog 142 #[.agg #[.int .i64 0, .int .i64 N, .string s]] w fun e w' => e = .returned (.tuple #[.string ⟨#[48]⟩, .int .i64 0]) ∧ Below w.heap.size w w' := by
  have hi := fun W hW => itoa_any 0 W (by decide) (by decide) (hl.below hW)
  rw [itoa_0] at hi
  have HL := hide hl
  clear hl
  go_enter Tryz.func142, Tryz.ntmps142
  go_wp2_with (first | (go_at_call 124; refine (hc _).mono ?_; rintro e w1 ⟨rfl, hb1⟩; have q1 : Below w.heap.size w w1 := ((Below.refl _ _).alloc (Nat.le_refl _) _).trans (hb1.mono (by simp)); have c0 : w1.cell? ⟨w.heap.size, 0, none⟩ = some (.int .i64 0) := (hb1.cell (by simp)).trans (by simp)) | (go_at_call 163; refine (hi _ q1).mono ?_; rintro e w2 ⟨rfl, hb2⟩; have d0 := (hb2.cell (p := ⟨w.heap.size, 0, none⟩) (by have := hb1.size; simp at this ⊢; omega)).trans c0))
  go_ret2
  exact ⟨rfl, q1.trans (hb2.mono q1.size)⟩
theorem key_1 (N : Int) (s : ByteArray) (w : World) (hl : Laid w) (h0 : -999999999 ≤ N) (h1 : N ≤ 999999999) (hc : ∀ W : World, Calls Tryz.prog 124 #[.agg #[.int .i64 1, .int .i64 N, .string s]] W fun e w' => e = .returned (.int .i64 0) ∧ Below W.heap.size W w') :
    Calls Tryz.prog 142 #[.agg #[.int .i64 1, .int .i64 N, .string s]] w fun e w' => e = .returned (.tuple #[.string ⟨(49 :: tenL (N + 1000000000)).toArray⟩, .int .i64 0]) ∧ Below w.heap.size w w' := by
  have hi := fun W hW => itoa_any 1 W (by decide) (by decide) (hl.below hW)
  rw [itoa_1] at hi
  have ht := fun W hW => ten_any (N + 999999999 + 1) W (by omega) (by omega) (hl.below hW)
  have hN : N + 999999999 + 1 = N + 1000000000 := by omega
  have hT : (tenL (N + 999999999 + 1)).length ≤ 2000 := by
    unfold tenL
    rw [List.length_append, Lib.repeatL_length]
    have : (Lib.itoa (N + 999999999 + 1)).length ≤ 10 := by
      unfold Lib.itoa
      rw [if_neg (by omega)]
      exact (decDigits_len 9 _ (by omega)).2
    simp; omega
  obtain ⟨T, hTe⟩ : ∃ T, tenL (N + 999999999 + 1) = T := ⟨_, rfl⟩
  rw [hTe] at ht hT
  rw [hN] at hTe
  rw [hTe]
  have hts := size_mk T
  clear hTe hN hl
  go_enter Tryz.func142, Tryz.ntmps142
  go_wp2_with (first | (go_at_call 124; refine (hc _).mono ?_; rintro e w1 ⟨rfl, hb1⟩; have q1 : Below w.heap.size w w1 := ((Below.refl _ _).alloc (Nat.le_refl _) _).trans (hb1.mono (by simp)); have c0 : w1.cell? ⟨w.heap.size, 0, none⟩ = some (.int .i64 1) := (hb1.cell (by simp)).trans (by simp); have c1 : w1.cell? ⟨w.heap.size, 1, none⟩ = some (.int .i64 N) := (hb1.cell (by simp)).trans (by simp); have c2 : w1.cell? ⟨w.heap.size, 2, none⟩ = some (.string s) := (hb1.cell (by simp)).trans (by simp); have hz : w.heap.size < w1.heap.size := by (have := hb1.size; simp at this; omega)) | (go_at_call 163; refine (hi _ q1).mono ?_; rintro e w2 ⟨rfl, hb2⟩; have q2 : Below w.heap.size w w2 := q1.trans (hb2.mono q1.size); have d0 := (hb2.cell (p := ⟨w.heap.size, 0, none⟩) hz).trans c0; have d1 := (hb2.cell (p := ⟨w.heap.size, 1, none⟩) hz).trans c1; have d2 := (hb2.cell (p := ⟨w.heap.size, 2, none⟩) hz).trans c2) | (go_at_call 164; refine (ht _ q2).mono ?_; rintro e w3 ⟨rfl, hb3⟩))
  go_ret2
  refine ⟨?_, q2.trans (hb3.mono q2.size)⟩
  rw [show (49 :: T) = [49] ++ T from rfl, ← mk_append]
  rfl
theorem key_2 (N : Int) (s : ByteArray) (w : World) (hl : Laid w) (hs : s.size ≤ 140737488355328) (hc : ∀ W : World, Calls Tryz.prog 124 #[.agg #[.int .i64 2, .int .i64 N, .string s]] W fun e w' => e = .returned (.int .i64 0) ∧ Below W.heap.size W w') :
    Calls Tryz.prog 142 #[.agg #[.int .i64 2, .int .i64 N, .string s]] w fun e w' => e = .returned (.tuple #[.string ⟨(50 :: s.data.toList).toArray⟩, .int .i64 0]) ∧ Below w.heap.size w w' := by
  have hi := fun W hW => itoa_any 2 W (by decide) (by decide) (hl.below hW)
  rw [itoa_2] at hi
  clear hl
  go_enter Tryz.func142, Tryz.ntmps142
  go_wp2_with (first | (go_at_call 124; refine (hc _).mono ?_; rintro e w1 ⟨rfl, hb1⟩; have q1 : Below w.heap.size w w1 := ((Below.refl _ _).alloc (Nat.le_refl _) _).trans (hb1.mono (by simp)); have c0 : w1.cell? ⟨w.heap.size, 0, none⟩ = some (.int .i64 2) := (hb1.cell (by simp)).trans (by simp); have c1 : w1.cell? ⟨w.heap.size, 1, none⟩ = some (.int .i64 N) := (hb1.cell (by simp)).trans (by simp); have c2 : w1.cell? ⟨w.heap.size, 2, none⟩ = some (.string s) := (hb1.cell (by simp)).trans (by simp); have hz : w.heap.size < w1.heap.size := by (have := hb1.size; simp at this; omega)) | (go_at_call 163; refine (hi _ q1).mono ?_; rintro e w2 ⟨rfl, hb2⟩; have q2 : Below w.heap.size w w2 := q1.trans (hb2.mono q1.size); have d0 := (hb2.cell (p := ⟨w.heap.size, 0, none⟩) hz).trans c0; have d1 := (hb2.cell (p := ⟨w.heap.size, 1, none⟩) hz).trans c1; have d2 := (hb2.cell (p := ⟨w.heap.size, 2, none⟩) hz).trans c2))
  go_ret2
  refine ⟨?_, q2⟩
  rw [show (50 :: s.data.toList) = [50] ++ s.data.toList from rfl, ← mk_append]
  rfl
theorem key_3 (N : Int) (s : ByteArray) (w : World) (hl : Laid w) (h0 : 0 ≤ N) (h1 : N ≤ 1) (hc : ∀ W : World, Calls Tryz.prog 124 #[.agg #[.int .i64 3, .int .i64 N, .string s]] W fun e w' => e = .returned (.int .i64 0) ∧ Below W.heap.size W w') :
    Calls Tryz.prog 142 #[.agg #[.int .i64 3, .int .i64 N, .string s]] w fun e w' => e = .returned (.tuple #[.string ⟨(51 :: Lib.itoa N).toArray⟩, .int .i64 0]) ∧ Below w.heap.size w w' := by
  have hi := fun W hW => itoa_any 3 W (by decide) (by decide) (hl.below hW)
  rw [itoa_3] at hi
  have hi2 := fun W hW => itoa_any N W (by omega) (by omega) (hl.below hW)
  have hT : (Lib.itoa N).length ≤ 2000 := by
    unfold Lib.itoa
    rw [if_neg (by omega)]
    exact Nat.le_trans (decDigits_len 9 _ (by omega)).2 (by decide)
  obtain ⟨T, hTe⟩ : ∃ T, Lib.itoa N = T := ⟨_, rfl⟩
  rw [hTe] at hi2 hT ⊢
  have hts := size_mk T
  clear hTe hl
  go_enter Tryz.func142, Tryz.ntmps142
  go_wp2_with (go_at_call 124; refine (hc _).mono ?_; rintro e w1 ⟨rfl, hb1⟩; have q1 : Below w.heap.size w w1 := ((Below.refl _ _).alloc (Nat.le_refl _) _).trans (hb1.mono (by simp)); have c0 : w1.cell? ⟨w.heap.size, 0, none⟩ = some (.int .i64 3) := (hb1.cell (by simp)).trans (by simp); have c1 : w1.cell? ⟨w.heap.size, 1, none⟩ = some (.int .i64 N) := (hb1.cell (by simp)).trans (by simp); have c2 : w1.cell? ⟨w.heap.size, 2, none⟩ = some (.string s) := (hb1.cell (by simp)).trans (by simp); have hz : w.heap.size < w1.heap.size := by (have := hb1.size; simp at this; omega))
  refine (hi _ q1).mono ?_
  rintro e w2 ⟨rfl, hb2⟩
  have q2 : Below w.heap.size w w2 := q1.trans (hb2.mono q1.size)
  have d0 := (hb2.cell (p := ⟨w.heap.size, 0, none⟩) hz).trans c0
  have d1 := (hb2.cell (p := ⟨w.heap.size, 1, none⟩) hz).trans c1
  go_wp2_with fail
  refine (hi2 _ q2).mono ?_
  rintro e w3 ⟨rfl, hb3⟩
  go_wp2
  go_ret2
  refine ⟨?_, q2.trans (hb3.mono q2.size)⟩
  rw [show (51 :: T) = [51] ++ T from rfl, ← mk_append]
  rfl
theorem key_any (K N : Int) (s : ByteArray) (w : World) (hs : s.size ≤ 140737488355328) (hl : Laid w) :
    Calls Tryz.prog 142 #[.agg #[.int .i64 K, .int .i64 N, .string s]] w fun e w' =>
      e = .returned (.tuple #[.string ⟨(if chkV K N s.data.toList = 0 then keyV K N s.data.toList else []).toArray⟩, .int .i64 (chkV K N s.data.toList : Nat)]) ∧ Below w.heap.size w w' := by
  have hc := fun W => check_any K N s W hs
  by_cases h0 : chkV K N s.data.toList = 0
  · rw [if_pos h0]
    rw [h0] at hc ⊢
    rcases chk_zero h0 with ⟨rfl, _⟩ | ⟨rfl, ⟨h1, h2⟩, _⟩ | ⟨rfl, _⟩ | ⟨rfl, h1, _⟩
    · exact key_0 N s w hl hc
    · exact key_1 N s w hl h1 h2 hc
    · exact key_2 N s w hl hs hc
    · exact key_3 N s w hl (by omega) (by omega) hc
  · rw [if_neg h0]
    exact key_bad K N s w _ hc (by simp; omega)
def mp (a b c : Value) : Obj := .map #[⟨.int .i64 1, a, 0⟩, ⟨.int .i64 2, b, 1⟩, ⟨.int .i64 3, c, 2⟩] 3
theorem get_map {W : World} {r : Nat} {es : Array MapEntry} {clock : Nat} (hb : W.heap[r]? = some (.map es clock)) : (getObj r).run Tryz.prog W = .ok (.map es clock) W := by
  simp [getObj, Sem.run, hb]
theorem set_map {W : World} {r : Nat} {es : Array MapEntry} {clock : Nat} (o : Obj) (hb : W.heap[r]? = some (.map es clock)) : (setObj r o).run Tryz.prog W = .ok () { W with heap := W.heap.setIfInBounds r o } := by
  simp [setObj, Sem.run, hb]
theorem check_key (W : World) (k : Int) (e : Bool) : (Instr.checkKey e 10000 3 (.int .i64 k)).run Tryz.prog W = .ok () W := by
  unfold Instr.checkKey
  simp only [Sem.run_bind, run_underlying Tryz.underlying3, Result.andThen]
  rfl
theorem find_key (W : World) (k : Int) (l : List MapEntry) (a : Option (Nat × Value)) (h : Instr.findNow (.int .i64) (.int .i64 k) l 0 = some a) : (Instr.findKey 3 (.int .i64 k) l).run Tryz.prog W = .ok a W := by
  simp [Instr.findKey, run_underlying Tryz.underlying3, Result.andThen, h]
theorem upd_none {W : World} {r : Nat} {es : Array MapEntry} {clock : Nat} (k : Int) (v : Value) (hb : W.heap[r]? = some (.map es clock)) (h : Instr.findNow (.int .i64) (.int .i64 k) es.toList 0 = some none) :
    (Instr.mapUpdate 180 (.map (some r)) (.int .i64 k) v).run Tryz.prog W = .ok () { W with heap := W.heap.setIfInBounds r (.map (es.push ⟨.int .i64 k, v, clock⟩) (clock + 1)) } := by
  unfold Instr.mapUpdate
  simp only [Sem.run_bind, run_underlying Tryz.underlying180, Result.andThen, get_map hb, check_key, find_key W k es.toList none h, set_map _ hb]
theorem upd_some {W : World} {r : Nat} {es : Array MapEntry} {clock : Nat} (k : Int) (v : Value) (i : Nat) (x : Value) (hb : W.heap[r]? = some (.map es clock)) (h : Instr.findNow (.int .i64) (.int .i64 k) es.toList 0 = some (some (i, x))) (hk : ((es[i]?).map (·.key)).getD (.int .i64 k) = .int .i64 k) :
    (Instr.mapUpdate 180 (.map (some r)) (.int .i64 k) v).run Tryz.prog W = .ok () { W with heap := W.heap.setIfInBounds r (.map (es.modify i fun e => { e with key := .int .i64 k, val := v }) clock) } := by
  unfold Instr.mapUpdate
  simp only [Sem.run_bind, run_underlying Tryz.underlying180, Result.andThen, get_map hb, check_key, find_key W k es.toList _ h, hk, Instr.keyThatStays]
  rw [if_pos (by simp [Instr.sameBits])]
  simp only [Sem.run_pure, set_map _ hb]
def pu (W : World) (r : Nat) (o : Obj) : World := { W with heap := W.heap.setIfInBounds r o }
theorem pu_same {W : World} {r : Nat} {o o' : Obj} (h : W.heap[r]? = some o) : (pu W r o').heap[r]? = some o' := by
  have := (ltS h)
  simp [pu, this]
theorem pu_other {W : World} {r k : Nat} {o : Obj} (h : k ≠ r) : (pu W r o).heap[k]? = W.heap[k]? := by
  simp only [pu]
  rw [Array.getElem?_setIfInBounds_ne (fun e => h e.symm)]
theorem pu_below {B : Nat} {W : World} {r : Nat} (o : Obj) (h : B ≤ r) : Below B W (pu W r o) :=
  ⟨rfl, rfl, rfl, by simp [pu], fun k hk => pu_other (by omega)⟩
theorem pu_alloc (w : World) (o o' : Obj) : pu (w.alloc o) w.heap.size o' = w.alloc o' := by
  show ({ (w.alloc o) with heap := (w.heap.push o).setIfInBounds w.heap.size o' } : World) = { w with heap := w.heap.push o' }
  rw [show (w.heap.push o).setIfInBounds w.heap.size o' = w.heap.push o' by
    apply Array.ext'
    simp [Array.setIfInBounds, Array.toList_set]]
  rfl
theorem ins1 (w : World) (v : Value) : (Instr.mapUpdate 180 (.map (some w.heap.size)) (.int .i64 1) v).run Tryz.prog (w.alloc (.map #[] 0)) = .ok () (w.alloc (.map #[⟨.int .i64 1, v, 0⟩] 1)) := by
  rw [upd_none 1 v (heap_alloc_new w (.map #[] 0)) rfl]
  exact congrArg (Result.ok ()) (pu_alloc w _ _)
theorem ins2 (w : World) (a v : Value) : (Instr.mapUpdate 180 (.map (some w.heap.size)) (.int .i64 2) v).run Tryz.prog (w.alloc (.map #[⟨.int .i64 1, a, 0⟩] 1)) = .ok () (w.alloc (.map #[⟨.int .i64 1, a, 0⟩, ⟨.int .i64 2, v, 1⟩] 2)) := by
  rw [upd_none 2 v (heap_alloc_new w (.map #[⟨.int .i64 1, a, 0⟩] 1)) rfl]
  exact congrArg (Result.ok ()) (pu_alloc w _ _)
theorem ins3 (w : World) (a b v : Value) : (Instr.mapUpdate 180 (.map (some w.heap.size)) (.int .i64 3) v).run Tryz.prog (w.alloc (.map #[⟨.int .i64 1, a, 0⟩, ⟨.int .i64 2, b, 1⟩] 2)) = .ok () (w.alloc (mp a b v)) := by
  rw [upd_none 3 v (heap_alloc_new w (.map #[⟨.int .i64 1, a, 0⟩, ⟨.int .i64 2, b, 1⟩] 2)) rfl]
  exact congrArg (Result.ok ()) (pu_alloc w _ _)
theorem put1 {W : World} {r : Nat} {x y z : Value} (v : Value) (hb : W.heap[r]? = some (mp x y z)) : (Instr.mapUpdate 180 (.map (some r)) (.int .i64 1) v).run Tryz.prog W = .ok () (pu W r (mp v y z)) := by
  rw [upd_some 1 v 0 x hb rfl rfl]; rfl
theorem put2 {W : World} {r : Nat} {x y z : Value} (v : Value) (hb : W.heap[r]? = some (mp x y z)) : (Instr.mapUpdate 180 (.map (some r)) (.int .i64 2) v).run Tryz.prog W = .ok () (pu W r (mp x v z)) := by
  rw [upd_some 2 v 1 y hb rfl rfl]; rfl
theorem put3 {W : World} {r : Nat} {x y z : Value} (v : Value) (hb : W.heap[r]? = some (mp x y z)) : (Instr.mapUpdate 180 (.map (some r)) (.int .i64 3) v).run Tryz.prog W = .ok () (pu W r (mp x y v)) := by
  rw [upd_some 3 v 2 z hb rfl rfl]; rfl
def tv (k n : Int) (s : ByteArray) : Value := .agg #[.int .i64 k, .int .i64 n, .string s]
def Inv (W : World) (p b r : Nat) (K N : Int) (s : ByteArray) (x y z : Value) : Prop :=
  W.cell? ⟨p, 0, none⟩ = some (.int .i64 K) ∧ W.cell? ⟨p, 1, none⟩ = some (.int .i64 N) ∧ W.cell? ⟨p, 2, none⟩ = some (.string s) ∧ W.cell? ⟨b, 0, none⟩ = some (.map (some r)) ∧ W.heap[r]? = some (mp x y z)
theorem cell_ne {W : World} {r p i : Nat} {x y z v : Value} (hr : W.heap[r]? = some (mp x y z)) (hc : W.cell? ⟨p, i, none⟩ = some v) : p ≠ r := by
  intro e
  subst e
  simp [World.cell?, hr, mp] at hc
theorem cell_lt {W : World} {p i : Nat} {v : Value} (hc : W.cell? ⟨p, i, none⟩ = some v) : p < W.heap.size := by
  rcases Nat.lt_or_ge p W.heap.size with h | h
  · exact h
  · simp [World.cell?, Array.getElem?_eq_none h] at hc
theorem Inv.put {W : World} {p b r : Nat} {K N : Int} {s : ByteArray} {x y z : Value} (h : Inv W p b r K N s x y z) (x' y' z' : Value) : Inv (pu W r (mp x' y' z')) p b r K N s x' y' z' := by
  obtain ⟨h0, h1, h2, h3, h4⟩ := h
  have hp := cell_ne h4 h0
  have hb := cell_ne h4 h3
  have cp : ∀ i, (pu W r (mp x' y' z')).cell? ⟨p, i, none⟩ = W.cell? ⟨p, i, none⟩ := fun i => World.cell?_of_block (w := W) (pu_other hp)
  have cb : ∀ i, (pu W r (mp x' y' z')).cell? ⟨b, i, none⟩ = W.cell? ⟨b, i, none⟩ := fun i => World.cell?_of_block (w := W) (pu_other hb)
  exact ⟨(cp 0).trans h0, (cp 1).trans h1, (cp 2).trans h2, (cb 0).trans h3, pu_same h4⟩
theorem Inv.below {W W' : World} {p b r : Nat} {K N : Int} {s : ByteArray} {x y z : Value} (h : Inv W p b r K N s x y z) (hb : Below W.heap.size W W') : Inv W' p b r K N s x y z := by
  obtain ⟨h0, h1, h2, h3, h4⟩ := h
  exact ⟨(hb.cell (p := ⟨p, 0, none⟩) (cell_lt h0)).trans h0, (hb.cell (p := ⟨p, 1, none⟩) (cell_lt h0)).trans h1, (hb.cell (p := ⟨p, 2, none⟩) (cell_lt h0)).trans h2, (hb.cell (p := ⟨b, 0, none⟩) (cell_lt h3)).trans h3, (hb.block r (ltS h4)).trans h4⟩
theorem putInt_any (n : Int) (W : World) (B p b r : Nat) (K N : Int) (s : ByteArray) (x y z : Value) (h : Inv W p b r K N s x y z) (hB : B ≤ r) :
    Calls Tryz.prog 169 #[.int .i64 n, .pointer (some ⟨b, 0, none⟩)] W fun e w' => e = .returned (.tuple #[]) ∧ Inv w' p b r K N s (tv 1 n ⟨#[]⟩) y z ∧ Below B W w' := by
  have hI := hide (h.put (tv 1 n ⟨#[]⟩) y z)
  have hc := h.2.2.2.1
  have hu := put1 (.agg #[.int .i64 1, .int .i64 n, .string ⟨#[]⟩]) h.2.2.2.2
  have hpu : Below B W (pu W r (mp (tv 1 n ⟨#[]⟩) y z)) := pu_below _ hB
  clear h
  go_enter Tryz.func169, Tryz.ntmps169
  go_wp2
  go_end0
  exact ⟨rfl, hI.out, hpu⟩
theorem putText_any (t : ByteArray) (W : World) (B p b r : Nat) (K N : Int) (s : ByteArray) (x y z : Value) (h : Inv W p b r K N s x y z) (hB : B ≤ r) :
    Calls Tryz.prog 170 #[.string t, .pointer (some ⟨b, 0, none⟩)] W fun e w' => e = .returned (.tuple #[]) ∧ Inv w' p b r K N s x (tv 2 0 t) z ∧ Below B W w' := by
  have hI := hide (h.put x (tv 2 0 t) z)
  have hc := h.2.2.2.1
  have hu := put2 (.agg #[.int .i64 2, .int .i64 0, .string t]) h.2.2.2.2
  have hpu : Below B W (pu W r (mp x (tv 2 0 t) z)) := pu_below _ hB
  clear h
  go_enter Tryz.func170, Tryz.ntmps170
  go_wp2
  go_end0
  exact ⟨rfl, hI.out, hpu⟩
def oneV (x : Bool) : Int := if x = true then 1 else 0
theorem one_any (x : Bool) (w : World) : Calls Tryz.prog 172 #[.bool x] w fun e w' => e = .returned (.int .i64 (oneV x)) ∧ w' = w := by
  cases x
  all_goals
    go_enter Tryz.func172, Tryz.ntmps172
    go_wp2
    go_ret
    exact ⟨rfl, rfl⟩
theorem putBool_any (t : Bool) (W : World) (B p b r : Nat) (K N : Int) (s : ByteArray) (x y z : Value) (h : Inv W p b r K N s x y z) (hB : B ≤ r) :
    Calls Tryz.prog 171 #[.bool t, .pointer (some ⟨b, 0, none⟩)] W fun e w' => e = .returned (.tuple #[]) ∧ Inv w' p b r K N s x y (tv 3 (oneV t) ⟨#[]⟩) ∧ Below B W w' := by
  have hI := hide (h.put x y (tv 3 (oneV t) ⟨#[]⟩))
  have hc := h.2.2.2.1
  have hu := put3 (W := W.drew) (.agg #[.int .i64 3, .int .i64 (oneV t), .string ⟨#[]⟩]) h.2.2.2.2
  have hpu : Below B W (pu W r (mp x y (tv 3 (oneV t) ⟨#[]⟩))) := pu_below _ hB
  clear h
  go_enter Tryz.func171, Tryz.ntmps171
  go_wp2
  go_region_with (go_at_call 172; refine (one_any _ _).mono ?_; rintro e w' ⟨rfl, rfl⟩)
  all_goals
    go_wp2
    go_end0
    exact ⟨rfl, hI.out, hpu.os, hpu.tape, hpu.output, hpu.size, hpu.block⟩
def intV (S : List UInt8) : Option Int :=
  match Lib.atoiAll S with
  | .ok v => if isInt v = true ∧ Lib.itoa v = S then some v else none
  | _ => none
theorem bytes_below (w : World) (t : ByteArray) : Below w.heap.size w (Lib.bytesWorld w 5 t) := by
  unfold Lib.bytesWorld
  exact Lib.below_freeze ((Below.refl _ _).drew.alloc (Nat.le_refl _) _) (by simp) _
theorem atoi_ok (s : ByteArray) (w : World) (hs : s.size ≤ 140737488355328) (v : Int) (h : Lib.atoiAll s.data.toList = .ok v) :
    Calls Tryz.prog 190 #[.string s] w fun e w' => e = .returned (.tuple #[.int .i64 v, .nilIface]) ∧ Below w.heap.size w w' := by
  refine (Tryz.strconv_Atoi_ok s (by omega) v h w).mono ?_
  rintro e w' ⟨rfl, rfl | ⟨t, rfl⟩⟩
  · exact ⟨rfl, Below.refl _ _⟩
  · exact ⟨rfl, bytes_below w t⟩
theorem atoi_err (s : ByteArray) (w : World) (hs : s.size ≤ 140737488355328) (hl : Laid w) (h : ∀ v, Lib.atoiAll s.data.toList ≠ .ok v) :
    Calls Tryz.prog 190 #[.string s] w fun e w' => (∃ n N, e = .returned (.tuple #[.int .i64 n, .iface 245 (.pointer (some ⟨N, 0, none⟩))])) ∧ Below w.heap.size w w' := by
  obtain ⟨_, ⟨tp, p, hv⟩, tq, q, hw⟩ := hl
  cases hr : Lib.atoiAll s.data.toList with
  | ok v => exact absurd hr (h v)
  | range =>
    refine (Any.strconv_Atoi_range_var Tryz.laysC172 s (by omega) hr tq q w hw).mono ?_
    rintro e w' ⟨N, rfl, _, _, hb⟩
    exact ⟨⟨_, _, rfl⟩, hb⟩
  | _ =>
    refine (Any.strconv_Atoi_syntax_var Tryz.laysC172 s (by omega) hr tp p w hv).mono ?_
    rintro e w' ⟨N, rfl, _, _, hb⟩
    exact ⟨⟨_, _, rfl⟩, hb⟩
theorem intOf_err (s : ByteArray) (w : World) (hs : s.size ≤ 140737488355328) (hl : Laid w) (h : ∀ v, Lib.atoiAll s.data.toList ≠ .ok v) :
    Calls Tryz.prog 173 #[.string s] w fun e w' => e = .returned (.tuple #[.int .i64 0, .bool false]) ∧ Below w.heap.size w w' := by
  have ha := atoi_err s w hs hl h
  clear h hl
  go_enter Tryz.func173, Tryz.ntmps173
  go_wp2_with (go_at_call 190; refine ha.mono ?_; rintro e w' ⟨⟨n, N, rfl⟩, hb⟩)
  go_ret2
  exact ⟨rfl, hb⟩
theorem intOf_range (s : ByteArray) (w : World) (v : Int) (ha : Calls Tryz.prog 190 #[.string s] w fun e w' => e = .returned (.tuple #[.int .i64 v, .nilIface]) ∧ Below w.heap.size w w') (hi : isInt v = false) :
    Calls Tryz.prog 173 #[.string s] w fun e w' => e = .returned (.tuple #[.int .i64 0, .bool false]) ∧ Below w.heap.size w w' := by
  have h2 := isInt_any v
  rw [hi] at h2
  clear hi
  go_enter Tryz.func173, Tryz.ntmps173
  go_wp2_with (first | (go_at_call 190; refine ha.mono ?_; rintro e w' ⟨rfl, hb⟩) | (go_at_call 152; refine (h2 _).mono ?_; rintro e w' ⟨rfl, hw'⟩; obtain rfl := hw'.symm; clear hw'))
  go_ret2
  exact ⟨rfl, hb⟩
theorem intOf_other (s : ByteArray) (w : World) (hl : Laid w) (v : Int) (ha : Calls Tryz.prog 190 #[.string s] w fun e w' => e = .returned (.tuple #[.int .i64 v, .nilIface]) ∧ Below w.heap.size w w') (hi : isInt v = true) (h0 : -999999999 ≤ v) (h1 : v ≤ 999999999)
    (hd : (Lib.itoa v == s.toList) = false) :
    Calls Tryz.prog 173 #[.string s] w fun e w' => e = .returned (.tuple #[.int .i64 0, .bool false]) ∧ Below w.heap.size w w' := by
  have h2 := isInt_any v
  rw [hi] at h2
  have h3 := fun W hW => itoa_any v W (by omega) (by omega) (hl.below hW)
  generalize Lib.itoa v = D at *
  clear hi hl
  go_enter Tryz.func173, Tryz.ntmps173
  go_wp2_with (first | (go_at_call 190; refine ha.mono ?_; rintro e w1 ⟨rfl, hb⟩) | (go_at_call 152; refine (h2 _).mono ?_; rintro e w' ⟨rfl, hw'⟩; obtain rfl := hw'.symm; clear hw') | (go_at_call 163; refine (h3 _ hb).mono ?_; rintro e w2 ⟨rfl, hb2⟩))
  go_ret2
  exact ⟨rfl, hb.trans (hb2.mono hb.size)⟩
theorem intOf_yes (s : ByteArray) (w : World) (hl : Laid w) (v : Int) (ha : Calls Tryz.prog 190 #[.string s] w fun e w' => e = .returned (.tuple #[.int .i64 v, .nilIface]) ∧ Below w.heap.size w w') (hi : isInt v = true) (h0 : -999999999 ≤ v) (h1 : v ≤ 999999999)
    (hd : (Lib.itoa v == s.toList) = true) :
    Calls Tryz.prog 173 #[.string s] w fun e w' => e = .returned (.tuple #[.int .i64 v, .bool true]) ∧ Below w.heap.size w w' := by
  have h2 := isInt_any v
  rw [hi] at h2
  have h3 := fun W hW => itoa_any v W (by omega) (by omega) (hl.below hW)
  generalize Lib.itoa v = D at *
  clear hi hl
  go_enter Tryz.func173, Tryz.ntmps173
  go_wp2_with (first | (go_at_call 190; refine ha.mono ?_; rintro e w1 ⟨rfl, hb⟩) | (go_at_call 152; refine (h2 _).mono ?_; rintro e w' ⟨rfl, hw'⟩; obtain rfl := hw'.symm; clear hw') | (go_at_call 163; refine (h3 _ hb).mono ?_; rintro e w2 ⟨rfl, hb2⟩))
  go_ret2
  exact ⟨rfl, hb.trans (hb2.mono hb.size)⟩
theorem intOf_any (s : ByteArray) (w : World) (hs : s.size ≤ 140737488355328) (hl : Laid w) :
    Calls Tryz.prog 173 #[.string s] w fun e w' => e = .returned (.tuple #[.int .i64 ((intV s.data.toList).getD 0), .bool (intV s.data.toList).isSome]) ∧ Below w.heap.size w w' := by
  by_cases h : ∃ v, Lib.atoiAll s.data.toList = .ok v
  · obtain ⟨v, hv⟩ := h
    have ha := atoi_ok s w hs v hv
    cases hi : isInt v
    · rw [show intV s.data.toList = none by simp [intV, hv, hi]]
      exact intOf_range s w v ha hi
    · have hb : -999999999 ≤ v ∧ v ≤ 999999999 := by simpa [isInt] using hi
      by_cases hd : Lib.itoa v = s.data.toList
      · rw [show intV s.data.toList = some v by simp [intV, hv, hi, hd]]
        exact intOf_yes s w hl v ha hi hb.1 hb.2 (by rw [Lib.toList_data]; simp [hd])
      · rw [show intV s.data.toList = none by simp [intV, hv, hd]]
        exact intOf_other s w hl v ha hi hb.1 hb.2 (by rw [Lib.toList_data]; simp [hd])
  · have h' : ∀ v, Lib.atoiAll s.data.toList ≠ .ok v := fun v e => h ⟨v, e⟩
    have hn : intV s.data.toList = none := by
      unfold intV
      split
      · rename_i v hv; exact absurd hv (h' v)
      · rfl
    rw [hn]
    exact intOf_err s w hs hl h'
end Go.Proofs.YtcnnjladaoaeiaaGreatDoor
