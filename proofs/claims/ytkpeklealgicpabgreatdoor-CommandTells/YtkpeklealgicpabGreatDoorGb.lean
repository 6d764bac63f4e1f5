/-
  Commands without memory: what the words of package words say, what the parser of package command answers on tokens, what Check answers.
  What the library's package-level variables hold, as far as this program reads them; strconv's two calls.
  The parser of package command in memory; its next token.
  'giveUp', 'may', 'must', 'oneOf' of the parser.
  Package words.
  'name', 'kindOf', 'number', 'column' of the parser.
  'column' and 'value' of the parser.
  'expr' and 'bracketed' of the parser: expressions in memory.
  'expr' and 'bracketed' of the parser.
  'listed' and 'inBrackets' of the parser.
  'inBrackets' of the parser.
  Commands in memory.
  A whole command out of and into memory, in one step each.
-/
import Derived.Deep.MidRow
import Derived.Test.YtkpeklealgicpabGreatDoorGa

namespace Go.Proofs.YtkpeklealgicpabGreatDoor
open Go.RowKit

structure Vl where
  k : Int
  n : Int
  s : List UInt8

inductive Ex where
  | mk (k : Int) (v : Vl) (name : List UInt8) (args : List Ex)

structure Cl where
  name : List UInt8
  ty : Int

structure Cm where
  kind : Int
  name : List UInt8
  other : List UInt8
  column : List UInt8
  cols : List Cl
  ty : Int
  val : Vl
  vals : List Vl
  fields : List (List UInt8)
  expr : Ex
  all : Bool
  wh : Ex
  order : List UInt8
  limit : Int

def vl0 : Vl := ⟨0, 0, []⟩
def ex0 : Ex := .mk 0 vl0 [] []
def cm0 : Cm := ⟨0, [], [], [], [], 0, vl0, [], [], ex0, false, ex0, [], 0⟩

abbrev w_create : List UInt8 := [99, 114, 101, 97, 116, 101]
abbrev w_table : List UInt8 := [116, 97, 98, 108, 101]
abbrev w_drop : List UInt8 := [100, 114, 111, 112]
abbrev w_alter : List UInt8 := [97, 108, 116, 101, 114]
abbrev w_add : List UInt8 := [97, 100, 100]
abbrev w_default : List UInt8 := [100, 101, 102, 97, 117, 108, 116]
abbrev w_rename : List UInt8 := [114, 101, 110, 97, 109, 101]
abbrev w_to : List UInt8 := [116, 111]
abbrev w_retype : List UInt8 := [114, 101, 116, 121, 112, 101]
abbrev w_index : List UInt8 := [105, 110, 100, 101, 120]
abbrev w_on : List UInt8 := [111, 110]
abbrev w_insert : List UInt8 := [105, 110, 115, 101, 114, 116]
abbrev w_into : List UInt8 := [105, 110, 116, 111]
abbrev w_values : List UInt8 := [118, 97, 108, 117, 101, 115]
abbrev w_delete : List UInt8 := [100, 101, 108, 101, 116, 101]
abbrev w_from : List UInt8 := [102, 114, 111, 109]
abbrev w_where : List UInt8 := [119, 104, 101, 114, 101]
abbrev w_update : List UInt8 := [117, 112, 100, 97, 116, 101]
abbrev w_set : List UInt8 := [115, 101, 116]
abbrev w_select : List UInt8 := [115, 101, 108, 101, 99, 116]
abbrev w_order : List UInt8 := [111, 114, 100, 101, 114]
abbrev w_by : List UInt8 := [98, 121]
abbrev w_limit : List UInt8 := [108, 105, 109, 105, 116]
abbrev w_begin : List UInt8 := [98, 101, 103, 105, 110]
abbrev w_commit : List UInt8 := [99, 111, 109, 109, 105, 116]
abbrev w_rollback : List UInt8 := [114, 111, 108, 108, 98, 97, 99, 107]
abbrev w_int : List UInt8 := [105, 110, 116]
abbrev w_text : List UInt8 := [116, 101, 120, 116]
abbrev w_bool : List UInt8 := [98, 111, 111, 108]
abbrev w_true : List UInt8 := [116, 114, 117, 101]
abbrev w_false : List UInt8 := [102, 97, 108, 115, 101]
abbrev w_null : List UInt8 := [110, 117, 108, 108]
abbrev w_not : List UInt8 := [110, 111, 116]
abbrev w_is : List UInt8 := [105, 115]
abbrev w_and : List UInt8 := [97, 110, 100]
abbrev w_or : List UInt8 := [111, 114]

def takenL : List (List UInt8) := [w_create, w_table, w_drop, w_alter, w_add, w_default, w_rename, w_to, w_retype, w_index, w_on, w_insert, w_into, w_values, w_delete, w_from, w_where, w_update, w_set, w_select, w_order, w_by, w_limit, w_begin, w_commit, w_rollback, w_int, w_text, w_bool, w_true, w_false, w_null, w_not, w_is, w_and, w_or]
def typesL : List (List UInt8) := [[], w_int, w_text, w_bool]
def opersL : List (List UInt8) := [[], [], [], [], [], w_and, w_or, [43], [45], [124, 124], [60], [61]]

def nameW (s : List UInt8) : Bool := aloneB 1 s && !takenL.contains s
/-- the place of a word; 0 where there is none -/
def placeL (l : List (List UInt8)) (s : List UInt8) : Nat := (l.idxOf? s).getD 0
def atL (l : List (List UInt8)) (k : Int) : List UInt8 := if k < 0 then [] else l.getD k.toNat []

inductive Rs (α : Type) where
  | ok (a : α) (i : Nat)
  | bad (i : Nat)

def Rs.then {α β : Type} (r : Rs α) (f : α → Nat → Rs β) : Rs β :=
  match r with
  | .ok a i => f a i
  | .bad i => .bad i

@[simp] theorem Rs.then_ok {α β : Type} (a : α) (i : Nat) (f : α → Nat → Rs β) : (Rs.ok a i).then f = f a i := rfl
@[simp] theorem Rs.then_bad {α β : Type} (i : Nat) (f : α → Nat → Rs β) : (Rs.bad i : Rs α).then f = .bad i := rfl

def tx (T : List Tk) (i : Nat) : List UInt8 := match T[i]? with | some t => t.t | none => []
def kd (T : List Tk) (i : Nat) : Int := match T[i]? with | some t => t.k | none => 0
def pl (T : List Tk) (en : Int) (i : Nat) : Int := match T[i]? with | some t => t.a | none => en

def must (T : List Tk) : List (List UInt8) → Nat → Rs Unit
  | [], i => .ok () i
  | w :: ws, i => if tx T i = w then must T ws (i + 1) else .bad i
def may (T : List Tk) (first : List UInt8) (others : List (List UInt8)) (i : Nat) : Rs Bool :=
  if tx T i = first then (must T others (i + 1)).then fun _ j => .ok true j else .ok false i
def oneOf (T : List Tk) : List (List UInt8) → Nat → Rs (List UInt8)
  | [], i => .bad i
  | w :: ws, i => if tx T i = w then .ok w (i + 1) else oneOf T ws i
def kindOf (T : List Tk) (f : List UInt8 → Nat) (i : Nat) : Rs Nat := if f (tx T i) = 0 then .bad i else .ok (f (tx T i)) (i + 1)
def nameP (T : List Tk) (i : Nat) : Rs (List UInt8) := if nameW (tx T i) = true then .ok (tx T i) (i + 1) else .bad i
def decN (l : List UInt8) : Nat := l.foldl (fun n c => 10 * n + (c.toNat - 48)) 0
def numberP (T : List Tk) (least : Nat) (i : Nat) : Rs Nat := if kd T i = 2 ∧ least ≤ decN (tx T i) then .ok (decN (tx T i)) (i + 1) else .bad i
def columnP (T : List Tk) (i : Nat) : Rs Cl := (nameP T i).then fun s j => (kindOf T (placeL typesL) j).then fun k j => .ok ⟨s, (k : Nat)⟩ j
def valueP (T : List Tk) (i : Nat) : Rs Vl :=
  if kd T i = 2 then (numberP T 0 i).then fun n j => .ok ⟨1, (n : Nat), []⟩ j
  else if kd T i = 3 then .ok ⟨2, 0, ((tx T i).drop 1).take ((tx T i).length - 2)⟩ (i + 1)
  else (oneOf T [[45], w_true, w_false, w_null] i).then fun s j =>
    if s = [45] then (numberP T 1 j).then fun n j => .ok ⟨1, -(n : Nat), []⟩ j
    else if s = w_true then .ok ⟨3, 1, []⟩ j
    else if s = w_false then .ok ⟨3, 0, []⟩ j
    else .ok vl0 j
def leafP (T : List Tk) (i : Nat) : Rs Ex :=
  if nameW (tx T i) = true then .ok (.mk 2 vl0 (tx T i) []) (i + 1)
  else (valueP T i).then fun v j => .ok (.mk 1 v [] []) j
def brackP (T : List Tk) (ex : Nat → Rs Ex) (i : Nat) : Rs Ex :=
  (ex i).then fun a j => (may T w_is [w_null, [41]] j).then fun b j =>
    if b = true then .ok (.mk 4 vl0 [] [a]) j
    else (kindOf T (placeL opersL) j).then fun k j => (ex j).then fun b j => (must T [[41]] j).then fun _ j => .ok (.mk (k : Nat) vl0 [] [a, b]) j
/-- an expression, with so many steps down that are left -/
def exprP (T : List Tk) : Nat → Nat → Rs Ex
  | 0, i => leafP T i
  | f + 1, i =>
    if tx T i = w_not then (exprP T f (i + 1)).then fun a j => .ok (.mk 3 vl0 [] [a]) j
    else if tx T i = [40] then brackP T (exprP T f) (i + 1)
    else leafP T i
def listGo {α : Type} (T : List Tk) (one : Nat → Rs α) : Nat → List α → Nat → Rs (List α)
  | 0, l, i => .ok l i
  | f + 1, l, i => if tx T i = [44] then (one (i + 1)).then fun x j => listGo T one f (l ++ [x]) j else .ok l i
def listP {α : Type} (T : List Tk) (one : Nat → Rs α) (i : Nat) : Rs (List α) := (one i).then fun x j => listGo T one (T.length + 1) [x] j
def inBrP {α : Type} (T : List Tk) (one : Nat → Rs α) (i : Nat) : Rs (List α) :=
  (must T [[40]] i).then fun _ j => (listP T one j).then fun l j => (must T [[41]] j).then fun _ j => .ok l j
def whereP (T : List Tk) (c : Cm) (i : Nat) : Rs Cm :=
  (may T w_where [] i).then fun b j => if b = true then (exprP T 60 j).then fun e j => .ok { c with all := false, wh := e } j else .ok { c with all := true } j
def createP (T : List Tk) (i : Nat) : Rs Cm :=
  (oneOf T [w_table, w_index] i).then fun s j =>
    if s = w_table then (nameP T j).then fun n j => (inBrP T (columnP T) j).then fun l j => .ok { cm0 with kind := 1, name := n, cols := l } j
    else (nameP T j).then fun n j => (must T [w_on] j).then fun _ j => (nameP T j).then fun o j => (must T [[40]] j).then fun _ j => (nameP T j).then fun c j => (must T [[41]] j).then fun _ j =>
      .ok { cm0 with kind := 8, name := n, other := o, column := c } j
def dropP (T : List Tk) (i : Nat) : Rs Cm :=
  (oneOf T [w_table, w_index] i).then fun s j => (nameP T j).then fun n j => .ok { cm0 with kind := if s = w_index then 9 else 2, name := n } j
def renameP (T : List Tk) (c : Cm) (i : Nat) : Rs Cm :=
  (may T w_to [] i).then fun b j =>
    if b = true then (nameP T j).then fun o j => .ok { c with kind := 7, other := o } j
    else (nameP T j).then fun l j => (must T [w_to] j).then fun _ j => (nameP T j).then fun o j => .ok { c with kind := 5, column := l, other := o } j
def alterP (T : List Tk) (i : Nat) : Rs Cm :=
  (must T [w_table] i).then fun _ j => (nameP T j).then fun n j => (oneOf T [w_add, w_drop, w_rename, w_retype] j).then fun s j =>
    if s = w_add then (columnP T j).then fun c j => (must T [w_default] j).then fun _ j => (valueP T j).then fun v j => .ok { cm0 with kind := 3, name := n, column := c.name, ty := c.ty, val := v } j
    else if s = w_drop then (nameP T j).then fun c j => .ok { cm0 with kind := 4, name := n, column := c } j
    else if s = w_rename then renameP T { cm0 with name := n } j
    else (columnP T j).then fun c j => .ok { cm0 with kind := 6, name := n, column := c.name, ty := c.ty } j
def insertP (T : List Tk) (i : Nat) : Rs Cm :=
  (must T [w_into] i).then fun _ j => (nameP T j).then fun n j => (must T [w_values] j).then fun _ j => (inBrP T (valueP T) j).then fun l j => .ok { cm0 with kind := 10, name := n, vals := l } j
def deleteP (T : List Tk) (i : Nat) : Rs Cm :=
  (must T [w_from] i).then fun _ j => (nameP T j).then fun n j => whereP T { cm0 with kind := 11, name := n } j
def updateP (T : List Tk) (i : Nat) : Rs Cm :=
  (nameP T i).then fun n j => (must T [w_set] j).then fun _ j => (nameP T j).then fun c j => (must T [[61]] j).then fun _ j => (exprP T 60 j).then fun e j =>
    whereP T { cm0 with kind := 12, name := n, column := c, expr := e } j
def fieldsP (T : List Tk) (i : Nat) : Rs (List (List UInt8)) :=
  (may T [42] [] i).then fun b j => if b = true then .ok [] j else listP T (nameP T) j
def orderP (T : List Tk) (c : Cm) (i : Nat) : Rs Cm :=
  (may T w_order [w_by] i).then fun b j => if b = true then (nameP T j).then fun o j => .ok { c with order := o } j else .ok c j
def limitP (T : List Tk) (c : Cm) (i : Nat) : Rs Cm :=
  (may T w_limit [] i).then fun b j => if b = true then (numberP T 0 j).then fun n j => .ok { c with limit := (n : Nat) } j else .ok c j
def chooseP (T : List Tk) (i : Nat) : Rs Cm :=
  (fieldsP T i).then fun l j => (must T [w_from] j).then fun _ j => (nameP T j).then fun n j =>
    (whereP T { cm0 with kind := 13, limit := -1, fields := l, name := n } j).then fun c j => (orderP T c j).then fun c j => limitP T c j
def firstW : List (List UInt8) := [w_create, w_drop, w_alter, w_insert, w_delete, w_update, w_select, w_begin, w_commit, w_rollback]
def commandP (T : List Tk) (i : Nat) : Rs Cm :=
  (oneOf T firstW i).then fun s j =>
    if s = w_create then createP T j else if s = w_drop then dropP T j else if s = w_alter then alterP T j else if s = w_insert then insertP T j
    else if s = w_delete then deleteP T j else if s = w_update then updateP T j else if s = w_select then chooseP T j
    else if s = w_begin then .ok { cm0 with kind := 14 } j else if s = w_commit then .ok { cm0 with kind := 15 } j else .ok { cm0 with kind := 16 } j
def wholeP (T : List Tk) : Rs Cm := (commandP T 0).then fun c j => if j < T.length then .bad j else .ok c j

end Go.Proofs.YtkpeklealgicpabGreatDoor

namespace Go.Proofs.YtkpeklealgicpabGreatDoor
open Go.RowKit

theorem var_keep6 {P : Program} {W W' : World} {n : String} {cs : Array Value} {g : Nat} (hg : P.globalNamed n = some g) (hk : W'.heap[g]? = W.heap[g]?) (hv : W.var? P n = some cs) : W'.var? P n = some cs := by
  unfold World.var? at hv ⊢
  rw [hg] at hv ⊢
  simp only [Option.bind_some] at hv ⊢
  rw [hk]; exact hv

theorem Tryz.gPow : Tryz.prog.globalNamed "internal/strconv.uint64pow10" = some 1 := by kernel_rfl
theorem Tryz.gES : Tryz.prog.globalNamed "strconv.ErrSyntax" = some 2 := by kernel_rfl
theorem Tryz.gER : Tryz.prog.globalNamed "strconv.ErrRange" = some 3 := by kernel_rfl

structure Laid (w : World) : Prop where
  tab : Lib.TabIs Tryz.prog w "internal/strconv.uint64pow10" .u64 Lib.pow10Tab
  es : ∃ tp p, w.var? Tryz.prog "strconv.ErrSyntax" = some #[.iface tp p]
  er : ∃ tp p, w.var? Tryz.prog "strconv.ErrRange" = some #[.iface tp p]
  ml : ∃ m, w.cell? ⟨0, 0, none⟩ = some (.int .i64 m)
  sz : 6 ≤ w.heap.size

theorem Laid.keep {w w' : World} (h : Laid w) (hs : w.heap.size ≤ w'.heap.size) (hk : ∀ k, k < 6 → w'.heap[k]? = w.heap[k]?) : Laid w' := by
  obtain ⟨h1, ⟨tp, p, h2⟩, ⟨tq, q, h3⟩, ⟨m, h4⟩, h5⟩ := h
  exact ⟨var_keep6 Tryz.gPow (hk 1 (by decide)) h1, ⟨tp, p, var_keep6 Tryz.gES (hk 2 (by decide)) h2⟩, ⟨tq, q, var_keep6 Tryz.gER (hk 3 (by decide)) h3⟩,
    ⟨m, (World.cell?_of_block (w := w) (hk 0 (by decide))).trans h4⟩, Nat.le_trans h5 hs⟩
theorem Laid.below {w w' : World} (h : Laid w) (hb : Below w.heap.size w w') : Laid w' := h.keep hb.size fun k hk => hb.block k (Nat.lt_of_lt_of_le hk h.sz)
theorem Laid.grown {w w' : World} {pb : Nat} (h : Laid w) (hp : 6 ≤ pb) (hg : w.grownBy w' (some pb)) : Laid w' :=
  h.keep hg.size fun k hk => hg.block k (Nat.lt_of_lt_of_le hk h.sz) (by intro e; cases e; omega)

theorem below_grow (w : World) (q : Nat) (os : Array Obj) : Below w.heap.size w (Sort.grow (w.drewN q) os) := by
  refine ⟨rfl, rfl, rfl, ?_, ?_⟩
  · show w.heap.size ≤ (w.heap ++ os).size
    simp
  · intro k hk
    show (w.heap ++ os)[k]? = w.heap[k]?
    rw [Array.getElem?_append_left hk]

theorem itoa_any (n : Int) (w : World) (h0 : -9223372036854775808 ≤ n) (h1 : n ≤ 9223372036854775807) (hl : Laid w) :
    Calls Tryz.prog 136 #[.int .i64 n] w fun e w' => e = .returned (.string ⟨(Lib.itoa n).toArray⟩) ∧ Below w.heap.size w w' := by
  refine (Tryz.strconv_Itoa n h0 h1 w hl.tab).mono ?_
  rintro e w' ⟨rfl, k, os, rfl⟩
  exact ⟨rfl, below_grow w k os⟩

theorem bytes_below (w : World) (t : ByteArray) : Below w.heap.size w (Lib.bytesWorld w 5 t) := by
  unfold Lib.bytesWorld
  exact Lib.below_freeze ((Below.refl _ _).drew.alloc (Nat.le_refl _) _) (by simp) _

/-- whatever the text is, Atoi comes back with a number and something -/
def atoiV (l : List UInt8) : Int := match Lib.atoiAll l with | .ok v => v | .range => Lib.atoiSat l | _ => 0

theorem atoi_any (s : ByteArray) (w : World) (hs : s.size ≤ 140737488355328) (hl : Laid w) :
    Calls Tryz.prog 174 #[.string s] w fun e w' => (∃ x, e = .returned (.tuple #[.int .i64 (atoiV s.data.toList), x])) ∧ Below w.heap.size w w' := by
  cases hr : Lib.atoiAll s.data.toList with
  | ok v =>
    refine (Tryz.strconv_Atoi_ok s (by omega) v hr w).mono ?_
    rintro e w' ⟨rfl, rfl | ⟨t, rfl⟩⟩
    · exact ⟨⟨_, by simp only [atoiV, hr]; rfl⟩, Below.refl _ _⟩
    · exact ⟨⟨_, by simp only [atoiV, hr]; rfl⟩, bytes_below w t⟩
  | range =>
    obtain ⟨tq, q, hv⟩ := hl.er
    refine (Tryz.strconv_Atoi_range_var s (by omega) hr tq q w hv).mono ?_
    rintro e w' ⟨N, rfl, -, -, hb⟩
    exact ⟨⟨_, by simp only [atoiV, hr]; rfl⟩, hb⟩
  | _ =>
    obtain ⟨tq, q, hv⟩ := hl.es
    refine (Tryz.strconv_Atoi_syntax_var s (by omega) hr tq q w hv).mono ?_
    rintro e w' ⟨N, rfl, -, -, hb⟩
    exact ⟨⟨_, by simp only [atoiV, hr]; rfl⟩, hb⟩

theorem decFrom_digits (l : List UInt8) : ∀ acc, (∀ c ∈ l, isD c = true) → Lib.decFrom acc l = some (l.foldl (fun n c => 10 * n + (c.toNat - 48)) acc) := by
  induction l with
  | nil => intro acc _; rfl
  | cons c r ih =>
    intro acc h
    have hc := h c (List.mem_cons_self ..)
    simp only [isD, Bool.and_eq_true, decide_eq_true_eq] at hc
    have hd : Lib.digitVal c = some (c.toNat - 48) := by unfold Lib.digitVal; rw [if_pos (by omega)]
    simp only [Lib.decFrom, hd, List.foldl_cons]
    rw [ih _ fun c hc => h c (List.mem_cons_of_mem _ hc), Nat.mul_comm]

theorem atoiV_digits (l : List UInt8) (h0 : l ≠ []) (h9 : l.length ≤ 9) (hd : ∀ c ∈ l, isD c = true) : atoiV l = (decN l : Nat) := by
  unfold atoiV
  rw [Lib.atoiAll_short l (by omega)]
  obtain ⟨c, r, rfl⟩ := List.exists_cons_of_ne_nil h0
  have hc := hd c (List.mem_cons_self ..)
  simp only [isD, Bool.and_eq_true, decide_eq_true_eq] at hc
  have h1 : (c == 45) = false := by rw [beq_eq_false_iff_ne]; intro e; subst e; simp at hc
  have h2 : (c == 43) = false := by rw [beq_eq_false_iff_ne]; intro e; subst e; simp at hc
  have hn : Lib.decNat (c :: r) = some (decN (c :: r)) := by rw [Lib.decNat, if_neg (by simp), decFrom_digits _ _ hd]; rfl
  simp only [Lib.atoi, h1, h2, hn]
  rfl

theorem decN_lt (l : List UInt8) (hd : ∀ c ∈ l, isD c = true) : decN l < 10 ^ l.length := by
  have go : ∀ (l : List UInt8) (acc : Nat), (∀ c ∈ l, isD c = true) → l.foldl (fun n c => 10 * n + (c.toNat - 48)) acc < (acc + 1) * 10 ^ l.length := by
    intro l
    induction l with
    | nil => intro acc _; simp
    | cons c r ih =>
      intro acc h
      have hc := h c (List.mem_cons_self ..)
      simp only [isD, Bool.and_eq_true, decide_eq_true_eq] at hc
      have := ih (10 * acc + (c.toNat - 48)) fun c hc => h c (List.mem_cons_of_mem _ hc)
      simp only [List.foldl_cons, List.length_cons, Nat.pow_succ]
      refine Nat.lt_of_lt_of_le this ?_
      have h10 : 10 * acc + (c.toNat - 48) + 1 ≤ (acc + 1) * 10 := by omega
      exact Nat.le_trans (Nat.mul_le_mul_right _ h10) (Nat.le_of_eq (by rw [Nat.mul_assoc, Nat.mul_comm 10]))
  have := go l 0 hd
  simpa [decN] using this

/-- what is known of a token that was scanned -/
structure TokOk (x : Tk) : Prop where
  short : x.t.length ≤ 22
  num : x.k = 2 → x.t ≠ [] ∧ x.t.length ≤ 9 ∧ ∀ c ∈ x.t, isD c = true
  txt : x.k = 3 → 2 ≤ x.t.length

end Go.Proofs.YtkpeklealgicpabGreatDoor

namespace Go.Proofs.YtkpeklealgicpabGreatDoor
open Go.RowKit

/-- a parser in memory: its tokens, which one is next, where their text ends -/
structure St (w : World) (base pb : Nat) (v : Value) (T : List Tk) (en : Int) (i : Nat) : Prop where
  blk : w.heap[pb]? = some (.cells #[v, .int .i64 (i : Int), .int .i64 en] 94)
  own : w.ownsRow base 63 3 v T.length (cellsT T)
  ne : v.ownBlock ≠ some pb
  le : i ≤ T.length
  few : T.length ≤ 2000
  six : 6 ≤ pb
  gl : Laid w
  toks : ∀ x ∈ T, TokOk x

theorem three {W : World} {b : Nat} {x y z : Value} {t : TypeId} (h : W.heap[b]? = some (.cells #[x, y, z] t)) :
    (W.cell? ⟨b, 0, none⟩ = some x ∧ W.cell? ⟨b, 1, none⟩ = some y ∧ W.cell? ⟨b, 2, none⟩ = some z) ∧ (W.frozen? ⟨b, 0, none⟩ = false ∧ W.frozen? ⟨b, 1, none⟩ = false ∧ W.frozen? ⟨b, 2, none⟩ = false) := by
  refine ⟨⟨?_, ?_, ?_⟩, Lib.frozen_of_heap h 0, Lib.frozen_of_heap h 1, Lib.frozen_of_heap h 2⟩
  · rw [Lib.cell_of_heap h]; rfl
  · rw [Lib.cell_of_heap h]; rfl
  · rw [Lib.cell_of_heap h]; rfl

set_option maxRecDepth 100000 in
set_option maxHeartbeats 800000 in
theorem here_end (w : World) (pb n cap : Nat) (ao : Option Addr) (en : Int) (hb : pb < w.heap.size)
    (c0 : w.cell? ⟨pb, 0, none⟩ = some (.slice ao n cap)) (c1 : w.cell? ⟨pb, 1, none⟩ = some (.int .i64 (n : Int))) (c2 : w.cell? ⟨pb, 2, none⟩ = some (.int .i64 en)) :
    Calls Tryz.prog 112 #[.pointer (some ⟨pb, 0, none⟩)] w fun e w' => e = .returned (.agg #[.int .i64 0, .int .i64 en, .string ⟨#[]⟩]) ∧ Below w.heap.size w w' := by
  have d0 : ∀ o, (w.alloc o).cell? ⟨pb, 0, none⟩ = some (.slice ao n cap) := fun o => (cell_old o hb).trans c0
  have d1 : ∀ o, (w.alloc o).cell? ⟨pb, 1, none⟩ = some (.int .i64 (n : Int)) := fun o => (cell_old o hb).trans c1
  have d2 : ∀ o, (w.alloc o).cell? ⟨pb, 2, none⟩ = some (.int .i64 en) := fun o => (cell_old o hb).trans c2
  go_enter Tryz.func112, Tryz.ntmps112
  go_wp2
  go_quiet (fail)
  go_wp2
  refine bodyPost_ret (v := .agg #[.int .i64 0, .int .i64 en, .string ⟨#[]⟩]) ?_ rfl ⟨rfl, ?_⟩
  · simp [results, Tryz.results112, go_sem]
  · exact (((below_drewN ((Below.refl _ _).alloc (Nat.le_refl _) _) _).setCell (by simp) _).setCell (by simp) _).setCell (by simp) _

set_option maxRecDepth 100000 in
set_option maxHeartbeats 800000 in
theorem here_in (w : World) (pb n cap g : Nat) (i : Nat) (k a : Int) (t : ByteArray) (hb : pb < w.heap.size) (hg : g < w.heap.size)
    (c0 : w.cell? ⟨pb, 0, none⟩ = some (.slice (some ⟨g, 0, none⟩) n cap)) (c1 : w.cell? ⟨pb, 1, none⟩ = some (.int .i64 (i : Int))) (hi : (i : Int) < (n : Int)) (hne : ((i : Int) == (n : Int)) = false)
    (e0 : w.cell? ⟨g, i * 3, none⟩ = some (.int .i64 k)) (e1 : w.cell? ⟨g, i * 3 + 1, none⟩ = some (.int .i64 a)) (e2 : w.cell? ⟨g, i * 3 + 2, none⟩ = some (.string t)) :
    Calls Tryz.prog 112 #[.pointer (some ⟨pb, 0, none⟩)] w fun e w' => e = .returned (.agg #[.int .i64 k, .int .i64 a, .string t]) ∧ Below w.heap.size w w' := by
  have d0 : ∀ o, (w.alloc o).cell? ⟨pb, 0, none⟩ = some (.slice (some ⟨g, 0, none⟩) n cap) := fun o => (cell_old o hb).trans c0
  have d1 : ∀ o, (w.alloc o).cell? ⟨pb, 1, none⟩ = some (.int .i64 (i : Int)) := fun o => (cell_old o hb).trans c1
  have f0 : ∀ o, (w.alloc o).cell? ⟨g, i * 3, none⟩ = some (.int .i64 k) := fun o => (cell_old o hg).trans e0
  have f1 : ∀ o, (w.alloc o).cell? ⟨g, i * 3 + 1, none⟩ = some (.int .i64 a) := fun o => (cell_old o hg).trans e1
  have f2 : ∀ o, (w.alloc o).cell? ⟨g, i * 3 + 2, none⟩ = some (.string t) := fun o => (cell_old o hg).trans e2
  go_enter Tryz.func112, Tryz.ntmps112
  go_wp2
  go_quiet (fail)
  go_wp2
  go_region
  go_wp2
  refine bodyPost_ret (v := .agg #[.int .i64 k, .int .i64 a, .string t]) ?_ rfl ⟨rfl, ?_⟩
  · simp [results, Tryz.results112, go_sem]
  · exact (((below_drewN ((Below.refl _ _).alloc (Nat.le_refl _) _) _).setCell (by simp) _).setCell (by simp) _).setCell (by simp) _

theorem cellsT_at (T : List Tk) : ∀ (i : Nat) (x : Tk), T[i]? = some x → (cellsT T)[i * 3]? = some (.int .i64 x.k) ∧ (cellsT T)[i * 3 + 1]? = some (.int .i64 x.a) ∧ (cellsT T)[i * 3 + 2]? = some (.string ⟨x.t.toArray⟩) := by
  induction T with
  | nil => intro i x h; simp at h
  | cons y r ih =>
    intro i x h
    cases i with
    | zero => simp at h; subst h; simp [cellsT, Tk.cells]
    | succ i =>
      have := ih i x (by simpa using h)
      have e : cellsT (y :: r) = y.cells ++ cellsT r := rfl
      rw [e]
      have e1 : (i + 1) * 3 = y.cells.length + i * 3 := by simp [Tk.cells]; omega
      rw [e1]
      refine ⟨?_, ?_, ?_⟩
      · rw [List.getElem?_append_right (by omega)]; simpa using this.1
      · rw [Nat.add_assoc, List.getElem?_append_right (by omega)]; simpa using this.2.1
      · rw [Nat.add_assoc, List.getElem?_append_right (by omega)]; simpa using this.2.2

/-- what is read of an owned row -/
theorem owned_at {w : World} {base : Nat} {e : TypeId} {size : Nat} {g n cap : Nat} {xs : List Value} (h : w.ownsRow base e size (.slice (some ⟨g, 0, none⟩) n cap) n xs) (j : Nat) (x : Value) (hx : xs[j]? = some x) :
    w.cell? ⟨g, j, none⟩ = some x := by
  have hj := (List.getElem?_eq_some_iff.1 hx).1
  exact (h.cellAt j (by rw [← h.1]; exact hj)).trans hx

def tokV (T : List Tk) (en : Int) (i : Nat) : Value := .agg #[.int .i64 (kd T i), .int .i64 (pl T en i), .string ⟨(tx T i).toArray⟩]

theorem here_any {w : World} {base pb : Nat} {v : Value} {T : List Tk} {en : Int} {i : Nat} (h : St w base pb v T en i) :
    Calls Tryz.prog 112 #[.pointer (some ⟨pb, 0, none⟩)] w fun e w' => e = .returned (.agg #[.int .i64 (kd T i), .int .i64 (pl T en i), .string ⟨(tx T i).toArray⟩]) ∧ Below w.heap.size w w' := by
  obtain ⟨⟨c0, c1, c2⟩, -⟩ := three h.blk
  have hb : pb < w.heap.size := (Array.getElem?_eq_some_iff.1 h.blk).1
  by_cases hi : i = T.length
  · obtain ⟨ao, cap, hv⟩ := owns_slice h.own
    subst hi
    rw [hv] at c0
    have e1 : kd T T.length = 0 := by simp [kd]
    have e2 : pl T en T.length = en := by simp [pl]
    have e3 : tx T T.length = [] := by simp [tx]
    rw [e1, e2, e3]
    exact here_end w pb T.length cap ao en hb c0 c1 c2
  · have hlt : i < T.length := by have := h.le; omega
    obtain ⟨g, cap, hv, hg1, hg2⟩ := owns_some h.own (by omega)
    have ho := h.own
    rw [hv] at c0 ho
    have hx : T[i]? = some T[i] := List.getElem?_eq_getElem hlt
    obtain ⟨a0, a1, a2⟩ := cellsT_at T i _ hx
    have e1 : kd T i = T[i].k := by simp [kd, hx]
    have e2 : pl T en i = T[i].a := by simp [pl, hx]
    have e3 : tx T i = T[i].t := by simp [tx, hx]
    rw [e1, e2, e3]
    exact here_in w pb T.length cap g i _ _ _ hb hg2 c0 c1 (by omega) (by simp; omega) (owned_at ho _ _ a0) (owned_at ho _ _ a1) (owned_at ho _ _ a2)

theorem St.below {w w' : World} {base pb : Nat} {v : Value} {T : List Tk} {en : Int} {i : Nat} (h : St w base pb v T en i) (hb : Below w.heap.size w w') : St w' base pb v T en i :=
  ⟨(hb.block pb (Array.getElem?_eq_some_iff.1 h.blk).1).trans h.blk, owns_below h.own hb, h.ne, h.le, h.few, h.six, h.gl.below hb, h.toks⟩

end Go.Proofs.YtkpeklealgicpabGreatDoor

namespace Go.Proofs.YtkpeklealgicpabGreatDoor
open Go.RowKit

theorem tokf0 (k a : Int) (t : ByteArray) (w : World) : (Instr.field 63 (.agg #[.int .i64 k, .int .i64 a, .string t]) 0).run Tryz.prog w = .ok (.int .i64 k) w := by kernel_rfl
theorem tokf1 (k a : Int) (t : ByteArray) (w : World) : (Instr.field 63 (.agg #[.int .i64 k, .int .i64 a, .string t]) 1).run Tryz.prog w = .ok (.int .i64 a) w := by kernel_rfl
theorem tokf2 (k a : Int) (t : ByteArray) (w : World) : (Instr.field 63 (.agg #[.int .i64 k, .int .i64 a, .string t]) 2).run Tryz.prog w = .ok (.string t) w := by kernel_rfl

/-- what gives up carries a place -/
abbrev pan (at_ : Int) : Ending := .panicked [{ v := .iface 90 (.int .i64 at_), recovered := false }]

set_option maxRecDepth 100000 in
set_option maxHeartbeats 800000 in
theorem giveUp_any {w : World} {base pb : Nat} {v : Value} {T : List Tk} {en : Int} {i : Nat} (h : St w base pb v T en i) :
    Calls Tryz.prog 57 #[.pointer (some ⟨pb, 0, none⟩)] w fun e w' => e = pan (pl T en i) ∧ Below w.heap.size w w' := by
  have hh := here_any h
  have t1 := tokf1
  go_enter Tryz.func57, Tryz.ntmps57
  go_wp2_with (go_at_call 112; refine hh.mono ?_; rintro e w1 ⟨rfl, hb1⟩)
  exact ⟨rfl, rfl, hb1⟩

set_option maxRecDepth 100000 in
set_option maxHeartbeats 800000 in
theorem may_no {w : World} {base pb : Nat} {v : Value} {T : List Tk} {en : Int} {i : Nat} (h : St w base pb v T en i) (s : ByteArray) (o : Value) (hs : tx T i ≠ s.data.toList) :
    Calls Tryz.prog 141 #[.pointer (some ⟨pb, 0, none⟩), .string s, o] w fun e w' => e = .returned (.bool false) ∧ Below w.heap.size w w' := by
  have hh := here_any h
  have t2 := tokf2
  have hne : ((tx T i) == s.toList) = false := by rw [Lib.toList_data]; simpa using hs
  go_enter Tryz.func141, Tryz.ntmps141
  go_wp2_with (go_at_call 112; refine hh.mono ?_; rintro e w1 ⟨rfl, hb1⟩)
  go_ret
  exact ⟨rfl, hb1⟩

theorem grown_refl (w : World) (r : Option Nat) : w.grownBy w r := ⟨rfl, rfl, rfl, Nat.le_refl _, fun _ _ _ => rfl⟩
theorem grown_below {w w' : World} (h : Below w.heap.size w w') (r : Option Nat) : w.grownBy w' r := ⟨h.os, h.tape, h.output, h.size, fun k hk _ => h.block k hk⟩
theorem grown_trans {a b c : World} {r : Option Nat} (h : a.grownBy b r) (k : b.grownBy c r) : a.grownBy c r :=
  ⟨k.os.trans h.os, k.tape.trans h.tape, k.output.trans h.output, Nat.le_trans h.size k.size, fun i hi hr => (k.block i (Nat.lt_of_lt_of_le hi h.size) hr).trans (h.block i hi hr)⟩

theorem grown_set (w : World) (b o : Nat) (x : Value) : w.grownBy (w.setCell ⟨b, o, none⟩ x) (some b) :=
  ⟨rfl, rfl, rfl, by simp [World.setCell], fun k _ hk => heap_setCell_other w _ k x (by intro e; exact hk (by rw [e]))⟩

theorem St.set {w : World} {base pb : Nat} {v : Value} {T : List Tk} {en : Int} {i : Nat} (h : St w base pb v T en i) (j : Nat) (hj : j ≤ T.length) : St (w.setCell ⟨pb, 1, none⟩ (.int .i64 (j : Int))) base pb v T en j := by
  refine ⟨?_, ?_, h.ne, hj, h.few, h.six, h.gl.grown h.six (grown_set w pb 1 _), h.toks⟩
  · exact heap_setCell_same _ pb 1 _ 94 (.int .i64 (j : Int)) h.blk
  · exact h.own.kept (grown_set w pb 1 _) (.inr h.ne)

/-- what a method of the parser answers, and what it leaves -/
structure Out {α : Type} (W : World) (base pb : Nat) (v : Value) (T : List Tk) (en : Int) (rep : World → Value → α → Prop) (r : Rs α) (e : Ending) (w' : World) : Prop where
  grown : W.grownBy w' (some pb)
  ok : ∀ a j, r = .ok a j → ∃ u, e = .returned u ∧ rep w' u a ∧ St w' base pb v T en j
  bad : ∀ j, r = .bad j → e = pan (pl T en j)

theorem Out.mkOk {α : Type} {W : World} {base pb : Nat} {v : Value} {T : List Tk} {en : Int} {rep : World → Value → α → Prop} {r : Rs α} {w' : World} {u : Value} {a : α} {j : Nat}
    (hg : W.grownBy w' (some pb)) (hr : r = .ok a j) (hu : rep w' u a) (hs : St w' base pb v T en j) : Out W base pb v T en rep r (.returned u) w' :=
  ⟨hg, by intro a' j' h; rw [hr] at h; cases h; exact ⟨u, rfl, hu, hs⟩, by intro j' h; rw [hr] at h; cases h⟩
theorem Out.mkBad {α : Type} {W : World} {base pb : Nat} {v : Value} {T : List Tk} {en : Int} {rep : World → Value → α → Prop} {r : Rs α} {w' : World} {j : Nat}
    (hg : W.grownBy w' (some pb)) (hr : r = .bad j) : Out W base pb v T en rep r (pan (pl T en j)) w' :=
  ⟨hg, (by intro a' j' h; rw [hr] at h; cases h), (by intro j' h; rw [hr] at h; cases h; rfl)⟩

def repB (_ : World) (u : Value) (b : Bool) : Prop := u = .bool b
def repU (_ : World) (u : Value) (_ : Unit) : Prop := u = .tuple #[]
def repS (_ : World) (u : Value) (s : List UInt8) : Prop := u = .string ⟨s.toArray⟩
def repN (_ : World) (u : Value) (n : Nat) : Prop := u = .int .i64 (n : Int)

/-- words in memory that are handed on, not in the parser's own block -/
def Strs (w : World) (pb : Nat) (o : Value) (ws : List (List UInt8)) : Prop :=
  (ws = [] ∧ o = .slice none 0 0) ∨ ∃ b cap, o = .slice (some ⟨b, 0, none⟩) ws.length cap ∧ b ≠ pb ∧ b < w.heap.size ∧ ∀ k s, ws[k]? = some s → w.cell? ⟨b, k, none⟩ = some (.string ⟨s.toArray⟩)

theorem tx_lt {T : List Tk} {i : Nat} (h : tx T i ≠ []) : i < T.length := by
  rcases Nat.lt_or_ge i T.length with h' | h'
  · exact h'
  · exact absurd (by simp [tx, List.getElem?_eq_none h']) h

set_option maxRecDepth 100000 in
set_option maxHeartbeats 800000 in
theorem may_yes {w : World} {base pb : Nat} {v : Value} {T : List Tk} {en : Int} {i : Nat} (h : St w base pb v T en i) (s : ByteArray) (o : Value) (hs : tx T i = s.data.toList) (h0 : s.data.toList ≠ []) (ws : List (List UInt8))
    (hm : ∀ W, w.grownBy W (some pb) → St W base pb v T en (i + 1) → Calls Tryz.prog 145 #[.pointer (some ⟨pb, 0, none⟩), o] W fun e w' => Out W base pb v T en repU (must T ws (i + 1)) e w') :
    Calls Tryz.prog 141 #[.pointer (some ⟨pb, 0, none⟩), .string s, o] w fun e w' => Out w base pb v T en repB (may T s.data.toList ws i) e w' := by
  have hh := here_any h
  have t2 := tokf2
  have heq : ((tx T i) == s.toList) = true := by rw [Lib.toList_data, hs]; simp
  have hlt : i < T.length := tx_lt (by rw [hs]; exact h0)
  have hmay : may T s.data.toList ws i = (must T ws (i + 1)).then fun _ j => .ok true j := by rw [may, if_pos hs]
  rw [hmay]
  clear hmay hs
  have hf := h.few
  go_enter Tryz.func141, Tryz.ntmps141
  go_wp2_with (go_at_call 112; refine hh.mono ?_; rintro e w1 ⟨rfl, hb1⟩; have s1 := h.below hb1; obtain ⟨⟨c0, c1, c2⟩, f0, f1, f2⟩ := three s1.blk)
  have e1 : ((i : Int) + 1) = ((i + 1 : Nat) : Int) := by omega
  have s2 := s1.set (i + 1) hlt
  have g2 : w.grownBy (w1.setCell ⟨pb, 1, none⟩ (.int .i64 ((i + 1 : Nat) : Int))) (some pb) := grown_trans (grown_below hb1 _) (grown_set _ _ _ _)
  have e2 : Value.int .i64 ((i : Int) + 1) = .int .i64 ((i + 1 : Nat) : Int) := by rw [e1]
  rw [e2]
  refine (hm _ g2 s2).mono ?_
  intro e w2 o2
  have g3 := grown_trans g2 o2.grown
  cases hr : must T ws (i + 1) with
  | bad j =>
    obtain rfl := o2.bad j hr
    exact ⟨rfl, .mkBad g3 (by simp [hr])⟩
  | ok a j =>
    obtain ⟨u, rfl, hu, s3⟩ := o2.ok a j hr
    have HR : Hid ((must T ws (i + 1)).then (fun _ j => .ok true j) = .ok true j) := by simp [Hid, hr]
    clear hr o2 hm s2 g2 hh c0 c1 c2 f0 f1 f2
    go_wp2
    go_ret
    exact .mkOk g3 HR.out rfl s3

theorem Strs.grown {w w' : World} {pb : Nat} {o : Value} {ws : List (List UInt8)} (h : Strs w pb o ws) (hg : w.grownBy w' (some pb)) : Strs w' pb o ws := by
  rcases h with h | ⟨b, cap, rfl, hb, hl, hc⟩
  · exact .inl h
  · exact .inr ⟨b, cap, rfl, hb, Nat.lt_of_lt_of_le hl hg.size, fun k s hk => (cell_grown hg hl (by simpa using hb)).trans (hc k s hk)⟩

set_option maxRecDepth 100000 in
set_option maxHeartbeats 800000 in
theorem must_nil {w : World} {base pb : Nat} {v : Value} {T : List Tk} {en : Int} {i : Nat} (h : St w base pb v T en i) :
    Calls Tryz.prog 145 #[.pointer (some ⟨pb, 0, none⟩), .slice none 0 0] w fun e w' => Out w base pb v T en repU (must T [] i) e w' := by
  go_enter Tryz.func145, Tryz.ntmps145
  go_wp2
  go_loopw [8] (fun k wr => k = .int .i64 0 ∧ wr = w) (fun _ _ => 0)
  case atStart => exact ⟨rfl, rfl⟩
  case round =>
    obtain ⟨rfl, rfl⟩ := hrel
    go_wp2
    go_end0
    exact .mkOk (grown_refl _ _) (a := ()) rfl rfl h

/-- one word that may stand there -/
theorem may_nil {w : World} {base pb : Nat} {v : Value} {T : List Tk} {en : Int} {i : Nat} (h : St w base pb v T en i) (s : List UInt8) (h0 : s ≠ []) :
    Calls Tryz.prog 141 #[.pointer (some ⟨pb, 0, none⟩), .string ⟨s.toArray⟩, .slice none 0 0] w fun e w' =>
      e = .returned (.bool (decide (tx T i = s))) ∧ w.grownBy w' (some pb) ∧ St w' base pb v T en (if tx T i = s then i + 1 else i) := by
  by_cases hs : tx T i = s
  · refine (may_yes h ⟨s.toArray⟩ (.slice none 0 0) (by simpa using hs) (by simpa using h0) [] fun W _ hW => must_nil hW).mono ?_
    intro e w1 o1
    obtain ⟨u, rfl, hu, s1⟩ := o1.ok true (i + 1) (by simp [may, must, hs])
    rw [hu, if_pos hs]
    exact ⟨by simp [hs], o1.grown, s1⟩
  · refine (may_no h ⟨s.toArray⟩ (.slice none 0 0) (by simpa using hs)).mono ?_
    rintro e w1 ⟨rfl, hb⟩
    rw [if_neg hs]
    exact ⟨by simp [hs], grown_below hb _, h.below hb⟩

set_option maxRecDepth 100000 in
set_option maxHeartbeats 800000 in
theorem must_some {w : World} {base pb : Nat} {v : Value} {T : List Tk} {en : Int} {i : Nat} (h : St w base pb v T en i) (b cap : Nat) (ws : List (List UInt8)) (hne : b ≠ pb) (hb : b < w.heap.size)
    (hn : ws.length ≤ 100) (hc : ∀ k s, ws[k]? = some s → w.cell? ⟨b, k, none⟩ = some (.string ⟨s.toArray⟩)) (h0 : ∀ s ∈ ws, s ≠ []) :
    Calls Tryz.prog 145 #[.pointer (some ⟨pb, 0, none⟩), .slice (some ⟨b, 0, none⟩) ws.length cap] w fun e w' => Out w base pb v T en repU (must T ws i) e w' := by
  obtain ⟨n, hl⟩ : ∃ n, ws.length = n := ⟨_, rfl⟩
  rw [hl] at hn ⊢
  go_enter Tryz.func145, Tryz.ntmps145
  go_wp2
  go_loopw [8] (fun x wr => ∃ k : Nat, k ≤ n ∧ x = .int .i64 k ∧ w.grownBy wr (some pb) ∧ St wr base pb v T en (i + k) ∧ Hid (must T ws i = must T (ws.drop k) (i + k))) (fun x _ => n - (intOf x).toNat)
  case atStart => exact ⟨0, Nat.zero_le _, rfl, grown_refl _ _, h, rfl⟩
  case round =>
    obtain ⟨k, hk, rfl, hg, hst, HM⟩ := hrel
    by_cases hlt : k < n
    · obtain ⟨s, hs⟩ : ∃ s, ws[k]? = some s := ⟨ws[k], List.getElem?_eq_getElem (by omega)⟩
      have a0 := (cell_grown hg (b := b) (o := k) hb (by simpa using hne)).trans (hc k s hs)
      have hmay := may_nil hst s (h0 s (List.mem_of_getElem? hs))
      have hd : ws.drop k = s :: ws.drop (k + 1) := by rw [List.drop_eq_getElem_cons (by omega)]; congr 1; exact (List.getElem?_eq_some_iff.1 hs).2
      have hlt' : (k : Int) < (n : Int) := by omega
      have HH := HM.out
      rw [hd, must] at HH
      by_cases ht : tx T (i + k) = s
      · rw [if_pos ht] at HH
        simp only [ht, if_true, decide_true] at hmay
        have HM2 : Hid (must T ws i = must T (ws.drop (k + 1)) (i + k + 1)) := HH
        clear HH HM hs hc hd ht
        go_wp2_with (go_at_call 141; refine hmay.mono ?_; rintro e w2 ⟨rfl, g2, s2⟩)
        go_roundw
        case rel => exact ⟨k + 1, by omega, by go_num, grown_trans hg g2, s2, HM2⟩
        case measure => simp [intOf]; omega
      · rw [if_neg ht] at HH
        simp only [ht, if_false, decide_false] at hmay
        have HM2 : Hid (must T ws i = .bad (i + k)) := HH
        clear HH HM hs hc hd ht
        go_wp2_with (first | (go_at_call 141; refine hmay.mono ?_; rintro e w2 ⟨rfl, g2, s2⟩) | (go_at_call 57; refine (giveUp_any s2).mono ?_; rintro e w3 ⟨rfl, b3⟩))
        exact ⟨rfl, .mkBad (grown_trans (grown_trans hg g2) (grown_below b3 _)) HM2.out⟩
    · have hkn : k = n := by omega
      have HH := HM.out
      rw [List.drop_eq_nil_of_le (by omega), must] at HH
      have HM2 : Hid (must T ws i = .ok () (i + k)) := HH
      clear HH HM hc
      go_wp2
      go_end0
      exact .mkOk hg HM2.out rfl hst

theorem must_any {w : World} {base pb : Nat} {v : Value} {T : List Tk} {en : Int} {i : Nat} (h : St w base pb v T en i) (o : Value) (ws : List (List UInt8)) (ho : Strs w pb o ws) (hn : ws.length ≤ 100) (h0 : ∀ s ∈ ws, s ≠ []) :
    Calls Tryz.prog 145 #[.pointer (some ⟨pb, 0, none⟩), o] w fun e w' => Out w base pb v T en repU (must T ws i) e w' := by
  rcases ho with ⟨rfl, rfl⟩ | ⟨b, cap, rfl, hb, hl, hc⟩
  · exact must_nil h
  · exact must_some h b cap ws hb hl hn hc h0

theorem may_any {w : World} {base pb : Nat} {v : Value} {T : List Tk} {en : Int} {i : Nat} (h : St w base pb v T en i) (s : List UInt8) (hs : s ≠ []) (o : Value) (ws : List (List UInt8)) (ho : Strs w pb o ws) (hn : ws.length ≤ 100) (h0 : ∀ s ∈ ws, s ≠ []) :
    Calls Tryz.prog 141 #[.pointer (some ⟨pb, 0, none⟩), .string ⟨s.toArray⟩, o] w fun e w' => Out w base pb v T en repB (may T s ws i) e w' := by
  by_cases ht : tx T i = s
  · have := may_yes h ⟨s.toArray⟩ o (by simpa using ht) (by simpa using hs) ws fun W hW sW => must_any sW o ws (ho.grown hW) hn h0
    simpa using this
  · refine (may_no h ⟨s.toArray⟩ o (by simpa using ht)).mono ?_
    rintro e w1 ⟨rfl, hb⟩
    exact .mkOk (grown_below hb _) (by rw [may, if_neg ht]) rfl (h.below hb)

set_option maxRecDepth 100000 in
set_option maxHeartbeats 800000 in
theorem oneOf_some {w : World} {base pb : Nat} {v : Value} {T : List Tk} {en : Int} {i : Nat} (h : St w base pb v T en i) (b cap : Nat) (ws : List (List UInt8)) (hne : b ≠ pb) (hb : b < w.heap.size)
    (hn : ws.length ≤ 100) (hc : ∀ k s, ws[k]? = some s → w.cell? ⟨b, k, none⟩ = some (.string ⟨s.toArray⟩)) (h0 : ∀ s ∈ ws, s ≠ []) :
    Calls Tryz.prog 104 #[.pointer (some ⟨pb, 0, none⟩), .slice (some ⟨b, 0, none⟩) ws.length cap] w fun e w' => Out w base pb v T en repS (oneOf T ws i) e w' := by
  obtain ⟨n, hl⟩ : ∃ n, ws.length = n := ⟨_, rfl⟩
  rw [hl] at hn ⊢
  go_enter Tryz.func104, Tryz.ntmps104
  go_wp2
  go_loopw [9] (fun x wr => ∃ k : Nat, k ≤ n ∧ x = .int .i64 k ∧ w.grownBy wr (some pb) ∧ St wr base pb v T en i ∧ Hid (oneOf T ws i = oneOf T (ws.drop k) i)) (fun x _ => n - (intOf x).toNat)
  case atStart => exact ⟨0, Nat.zero_le _, rfl, grown_refl _ _, h, rfl⟩
  case round =>
    obtain ⟨k, hk, rfl, hg, hst, HM⟩ := hrel
    by_cases hlt : k < n
    · obtain ⟨s, hs⟩ : ∃ s, ws[k]? = some s := ⟨ws[k], List.getElem?_eq_getElem (by omega)⟩
      have a0 := (cell_grown hg (b := b) (o := k) hb (by simpa using hne)).trans (hc k s hs)
      have hmay := may_nil hst s (h0 s (List.mem_of_getElem? hs))
      have hd : ws.drop k = s :: ws.drop (k + 1) := by rw [List.drop_eq_getElem_cons (by omega)]; congr 1; exact (List.getElem?_eq_some_iff.1 hs).2
      have hlt' : (k : Int) < (n : Int) := by omega
      have HH := HM.out
      rw [hd, oneOf] at HH
      by_cases ht : tx T i = s
      · rw [if_pos ht] at HH
        simp only [ht, if_true, decide_true] at hmay
        have HM2 : Hid (oneOf T ws i = .ok s (i + 1)) := HH
        clear HH HM hs hc hd ht
        go_wp2_with (go_at_call 141; refine hmay.mono ?_; rintro e w2 ⟨rfl, g2, s2⟩)
        go_ret
        exact .mkOk (grown_trans hg g2) HM2.out rfl s2
      · rw [if_neg ht] at HH
        simp only [ht, if_false, decide_false] at hmay
        have HM2 : Hid (oneOf T ws i = oneOf T (ws.drop (k + 1)) i) := HH
        clear HH HM hs hc hd ht
        go_wp2_with (go_at_call 141; refine hmay.mono ?_; rintro e w2 ⟨rfl, g2, s2⟩)
        go_roundw
        case rel => exact ⟨k + 1, by omega, by go_num, grown_trans hg g2, s2, HM2⟩
        case measure => simp [intOf]; omega
    · have hkn : k = n := by omega
      have HH := HM.out
      rw [List.drop_eq_nil_of_le (by omega), oneOf] at HH
      have HM2 : Hid (oneOf T ws i = .bad i) := HH
      clear HH HM hc
      go_wp2_with (go_at_call 57; refine (giveUp_any hst).mono ?_; rintro e w3 ⟨rfl, b3⟩)
      exact ⟨rfl, .mkBad (grown_trans hg (grown_below b3 _)) HM2.out⟩

end Go.Proofs.YtkpeklealgicpabGreatDoor

namespace Go.Proofs.YtkpeklealgicpabGreatDoor
open Go.RowKit

theorem contains_cons (b : UInt8) (l sub : List UInt8) : Lib.contains (b :: l) sub = (sub.isPrefixOf (b :: l) || Lib.contains l sub) := by
  have h := Lib.index_ge l sub
  unfold Lib.contains
  rw [Lib.index]
  split
  · rename_i h1; simp [h1]
  · rename_i h1
    split
    · rename_i h2
      have h2' : Lib.index l sub = -1 := by simpa using h2
      simp [h1, h2']
    · rename_i h2
      have h2' : Lib.index l sub ≠ -1 := by simpa using h2
      have e1 : (0 ≤ Lib.index l sub + 1) := by omega
      have e2 : (0 ≤ Lib.index l sub) := by omega
      simp [h1, e1, e2]

theorem pre_word (rest : List UInt8) : ∀ (s w : List UInt8), (32 : UInt8) ∉ s → (32 : UInt8) ∉ w → (s ++ [32]).isPrefixOf (w ++ 32 :: rest) = (s == w) := by
  intro s
  induction s with
  | nil =>
    intro w _ hw
    cases w with
    | nil => simp
    | cons c r =>
      simp only [List.mem_cons, not_or] at hw
      rw [List.nil_append, List.cons_append, List.isPrefixOf_cons_cons, beq_eq_false_iff_ne.2 hw.1]
      rfl
  | cons c r ih =>
    intro w hs hw
    cases w with
    | nil =>
      simp only [List.mem_cons, not_or] at hs
      rw [List.nil_append, List.cons_append, List.isPrefixOf_cons_cons, beq_eq_false_iff_ne.2 (Ne.symm hs.1)]
      rfl
    | cons d q =>
      simp only [List.mem_cons, not_or] at hs hw
      have := ih q hs.2 hw.2
      simp only [List.cons_append, List.isPrefixOf_cons_cons, this]
      rfl

theorem skip_word (sub rest : List UInt8) : ∀ w : List UInt8, (32 : UInt8) ∉ w → Lib.contains (w ++ 32 :: rest) (32 :: sub) = Lib.contains (32 :: rest) (32 :: sub) := by
  intro w
  induction w with
  | nil => intro _; rfl
  | cons c r ih =>
    intro h
    simp only [List.mem_cons, not_or] at h
    rw [List.cons_append, contains_cons, ih h.2, List.isPrefixOf_cons_cons]
    have : ((32 : UInt8) == c) = false := by rw [beq_eq_false_iff_ne]; exact h.1
    rw [this]; rfl

def encL : List (List UInt8) → List UInt8
  | [] => []
  | w :: ws => w ++ 32 :: encL ws

theorem contains_words (s : List UInt8) (hs : (32 : UInt8) ∉ s) : ∀ ws : List (List UInt8), (∀ w ∈ ws, (32 : UInt8) ∉ w) → Lib.contains (32 :: encL ws) (32 :: (s ++ [32])) = ws.contains s := by
  intro ws
  induction ws with
  | nil =>
    intro _
    rw [contains_cons]
    have h1 : (32 :: (s ++ [32])).isPrefixOf (32 :: encL []) = false := by cases s <;> simp [encL]
    have h2 : Lib.contains (encL []) (32 :: (s ++ [32])) = false := by simp [encL, Lib.contains, Lib.index]
    rw [h1, h2]; rfl
  | cons w ws ih =>
    intro h
    have hw := h w (List.mem_cons_self ..)
    rw [contains_cons, encL, List.isPrefixOf_cons_cons, pre_word _ s w hs hw, skip_word _ _ _ hw, ih fun x hx => h x (List.mem_cons_of_mem _ hx)]
    rw [List.contains_cons]; rfl

theorem taken_enc : (32 :: encL takenL) = [32, 99, 114, 101, 97, 116, 101, 32, 116, 97, 98, 108, 101, 32, 100, 114, 111, 112, 32, 97, 108, 116, 101, 114] ++ (32 :: encL takenL).drop 24 := by decide +kernel

theorem runL_all (p : UInt8 → Bool) (l : List UInt8) (h : runL p l = l.length) : ∀ c ∈ l, p c = true := by
  induction l with
  | nil => intro c hc; cases hc
  | cons a r ih =>
    rw [runL_cons] at h
    by_cases ha : p a = true
    · rw [if_pos ha] at h
      intro c hc
      rcases List.mem_cons.1 hc with rfl | hc
      · exact ha
      · exact ih (by simpa using h) c hc
    · rw [if_neg ha] at h; simp at h

/-- a name: a letter, and then letters and digits; at most 12 -/
theorem name_parts {s : List UInt8} (h : aloneB 1 s = true) : ∃ c r, s = c :: r ∧ isL c = true ∧ (∀ x ∈ r, isW x = true) ∧ s.length ≤ 12 := by
  rw [isTok_iff] at h
  unfold isTokB at h
  simp only [decide_eq_true_eq] at h
  obtain ⟨h0, -, h1, h2, h3⟩ := h
  obtain ⟨c, r, rfl⟩ := List.exists_cons_of_ne_nil h0
  have hk : (tokL (c :: r)).1 = 1 := by omega
  rw [hk] at h3
  have hl : ¬ 12 < (c :: r).length := by
    intro hgt
    rw [wrongL, if_neg (by decide), if_pos (.inl ⟨rfl, hgt⟩)] at h3
    cases h3
  rw [tokL] at hk h2
  by_cases hc : isL c = true
  · rw [if_pos hc] at h2
    exact ⟨c, r, rfl, hc, runL_all isW r (by simpa using h2), by omega⟩
  · rw [if_neg hc] at hk
    split at hk
    · cases hk
    · split at hk
      · split at hk <;> cases hk
      · split at hk
        · cases hk
        · split at hk <;> cases hk

theorem isW_not32 {c : UInt8} (h : isW c = true) : c ≠ 32 := by
  intro e; subst e; revert h; decide
theorem isL_isW {c : UInt8} (h : isL c = true) : isW c = true := by simp [isW, h]

theorem names_no_blank {s : List UInt8} (h : aloneB 1 s = true) : (32 : UInt8) ∉ s := by
  obtain ⟨c, r, rfl, hc, hr, -⟩ := name_parts h
  intro hm
  rcases List.mem_cons.1 hm with e | hm
  · exact isW_not32 (isL_isW hc) e.symm
  · exact isW_not32 (hr _ hm) rfl

theorem taken_no_blank : ∀ w ∈ takenL, (32 : UInt8) ∉ w := by decide +kernel

theorem contains_taken {s : List UInt8} (h : aloneB 1 s = true) : Lib.contains (32 :: encL takenL) (32 :: (s ++ [32])) = takenL.contains s :=
  contains_words s (names_no_blank h) takenL taken_no_blank

theorem blanked (s : ByteArray) : ((⟨#[32]⟩ : ByteArray) ++ s ++ ⟨#[32]⟩) = ⟨(32 :: (s.data.toList ++ [32])).toArray⟩ := by
  obtain ⟨⟨l⟩⟩ := s
  have := mk_append ([32] ++ l) [32]
  rw [← mk_append] at this
  simpa using this

theorem name_row (s : ByteArray) (w : World) : TokRow (w.alloc (.cells #[.int .i64 1, .int .i64 0, .string s] 63)) w.heap.size 0 1 [⟨1, 0, s.data.toList⟩] := by
  refine ⟨rfl, ?_⟩
  intro i x hx
  match i, hx with
  | 0, hx =>
    simp at hx; subst hx
    simp
  | i + 1, hx => simp at hx

theorem name_joinS (s : List UInt8) : (joinS [⟨1, 0, s⟩]).2 = if aloneB 1 s = true then 0 else 1 := by
  unfold joinS
  by_cases h : aloneB 1 s = true
  · obtain ⟨_, _, _, _, _, hl⟩ := name_parts h
    rw [if_pos (by simpa using h), if_pos h, if_neg]
    show ¬ 2000 < s.length
    omega
  · rw [if_neg (by simpa using h), if_neg h]

theorem name_call (s : ByteArray) (w : World) (hs : s.size ≤ 140737488355328) :
    Calls Tryz.prog 16 #[.slice (some ⟨w.heap.size, 0, none⟩) 1 1] (w.alloc (.cells #[.int .i64 1, .int .i64 0, .string s] 63)) fun e w' =>
      (∃ S : List UInt8, e = .returned (.tuple #[.string ⟨S.toArray⟩, .int .i64 ((if aloneB 1 s.data.toList = true then 0 else 1 : Nat) : Int)])) ∧ Below w.heap.size w w' := by
  have hsz : s.data.toList.length = s.size := by simp
  refine (join_some w.heap.size 0 1 1 [⟨1, 0, s.data.toList⟩] _ (by decide) (by decide) (by simp) (name_row s w) (by intro x hx; simp at hx; subst hx; simp; omega)).mono ?_
  rintro e w' ⟨rfl, hb⟩
  rw [← name_joinS]
  exact ⟨⟨_, rfl⟩, ((Below.refl _ _).alloc (Nat.le_refl _) _).trans (hb.mono (by simp))⟩

set_option maxRecDepth 100000 in
set_option maxHeartbeats 800000 in
theorem isName_no (s : ByteArray) (w : World) (hs : s.size ≤ 140737488355328) (h : aloneB 1 s.data.toList = false) :
    Calls Tryz.prog 72 #[.string s] w fun e w' => e = .returned (.bool false) ∧ Below w.heap.size w w' := by
  have hj := name_call s w hs
  simp only [h, Bool.false_eq_true, if_false] at hj
  go_enter Tryz.func72, Tryz.ntmps72
  go_wp2_with (go_at_call 16; refine hj.mono ?_; rintro e w1 ⟨⟨S, rfl⟩, hb1⟩)
  go_ret
  exact ⟨rfl, hb1⟩

set_option maxRecDepth 100000 in
set_option maxHeartbeats 800000 in
theorem isName_yes (s : ByteArray) (w : World) (hs : s.size ≤ 140737488355328) (hl : Laid w) (h : aloneB 1 s.data.toList = true) :
    Calls Tryz.prog 72 #[.string s] w fun e w' => e = .returned (.bool (!takenL.contains s.data.toList)) ∧ Below w.heap.size w w' := by
  have hj := name_call s w hs
  simp only [h, if_true] at hj
  have hc : ∀ W : World, Laid W → Calls Tryz.prog 120 #[.string ⟨(32 :: encL takenL).toArray⟩, .string ((⟨#[32]⟩ : ByteArray) ++ s ++ ⟨#[32]⟩)] W fun e w' => e = .returned (.bool (takenL.contains s.data.toList)) ∧ w' = W := by
    intro W hW
    obtain ⟨m, hm⟩ := hW.ml
    have := Tryz.strings_Contains ⟨(32 :: encL takenL).toArray⟩ ((⟨#[32]⟩ : ByteArray) ++ s ++ ⟨#[32]⟩) m W (by decide +kernel) hm
    rw [blanked] at this ⊢
    simpa only [contains_taken h] using this
  generalize takenL.contains s.data.toList = B at hc ⊢
  go_enter Tryz.func72, Tryz.ntmps72
  go_wp2_with (go_at_call 16; refine hj.mono ?_; rintro e w1 ⟨⟨S, rfl⟩, hb1⟩)
  refine (hc _ (hl.below hb1)).mono ?_
  rintro e w2 ⟨rfl, rfl⟩
  go_wp2
  go_ret
  exact ⟨rfl, hb1⟩

theorem isName_any (s : ByteArray) (w : World) (hs : s.size ≤ 140737488355328) (hl : Laid w) :
    Calls Tryz.prog 72 #[.string s] w fun e w' => e = .returned (.bool (nameW s.data.toList)) ∧ Below w.heap.size w w' := by
  unfold nameW
  cases h : aloneB 1 s.data.toList
  · exact isName_no s w hs h
  · exact isName_yes s w hs hl h

/-- words at the head of a block -/
def StrAt (w : World) (b : Nat) (ws : List (List UInt8)) : Prop := ∀ k s, ws[k]? = some s → w.cell? ⟨b, k, none⟩ = some (.string ⟨s.toArray⟩)

theorem beq_bytes (s : ByteArray) (l : List UInt8) : (s.toList == l) = decide (s.data.toList = l) := by
  rw [Lib.toList_data, Bool.eq_iff_iff, beq_iff_eq, decide_eq_true_iff]

theorem idxOf_go (l : List (List UInt8)) (s : List UInt8) : ∀ k, (∀ j, j < k → l[j]? ≠ some s) → l[k]? = some s → l.idxOf? s = some k := by
  induction l with
  | nil => intro k _ h; simp at h
  | cons x r ih =>
    intro k hn h
    cases k with
    | zero => simp only [List.getElem?_cons_zero, Option.some.injEq] at h; subst h; simp [List.idxOf?_cons]
    | succ k =>
      have hx : x ≠ s := by have := hn 0 (by omega); simpa using this
      have := ih k (fun j hj => by simpa using hn (j + 1) (by omega)) (by simpa using h)
      rw [List.idxOf?_cons, if_neg (by simpa using hx), this]; rfl

theorem idxOf_none (l : List (List UInt8)) (s : List UInt8) (h : ∀ j : Nat, l[j]? ≠ some s) : l.idxOf? s = none := by
  rw [List.idxOf?_eq_none_iff]
  intro hm
  obtain ⟨j, hj⟩ := List.mem_iff_getElem?.1 hm
  exact h j hj

def idxI (l : List (List UInt8)) (s : List UInt8) : Int := match l.idxOf? s with | some k => (k : Nat) | none => -1

set_option maxRecDepth 100000 in
set_option maxHeartbeats 800000 in
theorem index_any (s : ByteArray) (w : World) (b cap : Nat) (ws : List (List UInt8)) (hn : ws.length ≤ 100) (hc : StrAt w b ws) :
    Calls Tryz.prog 191 #[.slice (some ⟨b, 0, none⟩) ws.length cap, .string s] w fun e w' => e = .returned (.int .i64 (idxI ws s.data.toList)) ∧ w' = w := by
  obtain ⟨n, hl⟩ : ∃ n, ws.length = n := ⟨_, rfl⟩
  rw [hl] at hn ⊢
  go_enter Tryz.func191, Tryz.ntmps191
  go_wp2
  go_loopw [8] (fun x wr => ∃ k : Nat, k ≤ n ∧ x = .int .i64 k ∧ wr = w ∧ Hid (∀ j, j < k → ws[j]? ≠ some s.data.toList)) (fun x _ => n - (intOf x).toNat)
  case atStart => exact ⟨0, Nat.zero_le _, rfl, rfl, fun j hj => absurd hj (Nat.not_lt_zero _)⟩
  case round =>
    obtain ⟨k, hk, rfl, rfl, HM⟩ := hrel
    by_cases hlt : k < n
    · obtain ⟨u, hu⟩ : ∃ u, ws[k]? = some u := ⟨ws[k], List.getElem?_eq_getElem (by omega)⟩
      have a0 := hc k u hu
      have hlt' : (k : Int) < (n : Int) := by omega
      have HU : Hid (ws[k]? = some u) := hu
      have hq : (s.toList == u) = decide (s.data.toList = u) := beq_bytes s u
      clear hu hc
      by_cases he : s.data.toList = u
      · rw [decide_eq_true he] at hq
        have HE : Hid (s.data.toList = u) := he
        clear he
        go_wp2
        go_ret
        refine ⟨ret_int ?_, rfl⟩
        rw [idxI, idxOf_go ws _ k HM.out (by rw [HE.out]; exact HU.out)]
      · rw [decide_eq_false he] at hq
        have HE : Hid (s.data.toList ≠ u) := he
        clear he
        go_wp2
        go_roundw
        case rel =>
          refine ⟨k + 1, by omega, by go_num, trivial, fun j hj => ?_⟩
          rcases Nat.lt_or_ge j k with h | h
          · exact HM.out j h
          · rw [show j = k by omega, HU.out]; intro e; cases e; exact HE.out rfl
        case measure => simp [intOf]; omega
    · clear hc
      go_wp2
      go_ret
      refine ⟨ret_int ?_, rfl⟩
      rw [idxI, idxOf_none ws _ fun j => ?_]
      rcases Nat.lt_or_ge j k with h | h
      · exact HM.out j h
      · rw [List.getElem?_eq_none (by omega)]; simp

set_option maxRecDepth 100000 in
set_option maxHeartbeats 800000 in
theorem place_any (s : ByteArray) (w : World) (b cap : Nat) (ws : List (List UInt8)) (hn : ws.length ≤ 100) (hc : StrAt w b ws) :
    Calls Tryz.prog 180 #[.slice (some ⟨b, 0, none⟩) ws.length cap, .string s] w fun e w' => e = .returned (.int .i64 (placeL ws s.data.toList : Nat)) ∧ w' = w := by
  have hi := index_any s w b cap ws hn hc
  go_enter Tryz.func180, Tryz.ntmps180
  go_wp2_with (go_at_call 191; refine hi.mono ?_; rintro e w' ⟨rfl, rfl⟩)
  go_ret
  refine ⟨ret_int ?_, rfl⟩
  unfold idxI placeL
  cases ws.idxOf? s.data.toList with
  | none => rfl
  | some k => simp

theorem atL_nil (ws : List (List UInt8)) (k : Int) (h : k < 0 ∨ (ws.length : Int) ≤ k) : atL ws k = [] := by
  unfold atL
  split
  · rfl
  · rw [List.getD_eq_getElem?_getD, List.getElem?_eq_none (by omega)]; rfl

set_option maxRecDepth 100000 in
set_option maxHeartbeats 800000 in
theorem at_any (k : Int) (w : World) (b cap : Nat) (ws : List (List UInt8)) (hc : StrAt w b ws) :
    Calls Tryz.prog 156 #[.slice (some ⟨b, 0, none⟩) ws.length cap, .int .i64 k] w fun e w' => e = .returned (.string ⟨(atL ws k).toArray⟩) ∧ w' = w := by
  obtain ⟨n, hl⟩ : ∃ n, ws.length = n := ⟨_, rfl⟩
  rw [hl]
  by_cases h0 : k < 0
  · rw [atL_nil ws k (.inl h0)]
    clear hc
    go_enter Tryz.func156, Tryz.ntmps156
    go_wp2
    go_ret
    exact ⟨rfl, rfl⟩
  by_cases h1 : (n : Int) ≤ k
  · rw [atL_nil ws k (.inr (by omega))]
    have hd : decide (k < 0) = false := by simpa using h0
    clear hc h0
    go_enter Tryz.func156, Tryz.ntmps156
    go_wp2
    go_ret
    exact ⟨rfl, rfl⟩
  · obtain ⟨j, rfl⟩ : ∃ j : Nat, k = (j : Int) := ⟨k.toNat, by omega⟩
    obtain ⟨u, hu⟩ : ∃ u, ws[j]? = some u := ⟨ws[j], List.getElem?_eq_getElem (by omega)⟩
    have a0 := hc j u hu
    have e : atL ws (j : Int) = u := by
      unfold atL
      rw [if_neg h0, List.getD_eq_getElem?_getD, Int.toNat_natCast, hu]; rfl
    rw [e]
    have hd : decide ((j : Int) < 0) = false := by simp
    have hd2 : decide ((n : Int) ≤ (j : Int)) = false := by simpa using h1
    have hlt' : (j : Int) < (n : Int) := by omega
    clear hc h0 h1 e hu
    go_enter Tryz.func156, Tryz.ntmps156
    go_wp2
    go_ret
    exact ⟨rfl, rfl⟩

def strsOf (ws : List (List UInt8)) : Array Value := (ws.map fun s => Value.string ⟨s.toArray⟩).toArray

theorem strAt_new (w : World) (ws : List (List UInt8)) : StrAt (w.alloc (.cells (strsOf ws) 9)) w.heap.size ws := by
  intro k s hk
  have h : (w.alloc (.cells (strsOf ws) 9)).heap[w.heap.size]? = some (.cells (strsOf ws) 9) := heap_alloc_new _ _
  rw [Lib.cell_of_heap h]
  simp [strsOf, hk]

set_option maxRecDepth 100000 in
set_option maxHeartbeats 800000 in
theorem types_any (w : World) : Calls Tryz.prog 157 #[] w fun e w' => e = .returned (.slice (some ⟨w.heap.size, 0, none⟩) 4 4) ∧ w' = w.alloc (.cells (strsOf typesL) 9) := by
  go_enter Tryz.func157, Tryz.ntmps157
  go_wp2
  go_ret
  exact ⟨rfl, rfl⟩

set_option maxRecDepth 100000 in
set_option maxHeartbeats 800000 in
theorem operators_any (w : World) : Calls Tryz.prog 168 #[] w fun e w' => e = .returned (.slice (some ⟨w.heap.size, 0, none⟩) 12 12) ∧ w' = w.alloc (.cells (strsOf opersL) 9) := by
  go_enter Tryz.func168, Tryz.ntmps168
  go_wp2
  go_ret
  exact ⟨rfl, rfl⟩

set_option maxRecDepth 100000 in
set_option maxHeartbeats 800000 in
theorem type_any (s : ByteArray) (w : World) : Calls Tryz.prog 171 #[.string s] w fun e w' => e = .returned (.int .i64 (placeL typesL s.data.toList : Nat)) ∧ Below w.heap.size w w' := by
  have h2 := place_any s _ w.heap.size 4 typesL (by decide) (strAt_new w typesL)
  go_enter Tryz.func171, Tryz.ntmps171
  go_wp2_with (first | (go_at_call 157; refine (types_any _).mono ?_; rintro e w1 ⟨rfl, rfl⟩) | (go_at_call 180; refine h2.mono ?_; rintro e w2 ⟨rfl, rfl⟩))
  go_ret
  exact ⟨rfl, (Below.refl _ _).alloc (Nat.le_refl _) _⟩

set_option maxRecDepth 100000 in
set_option maxHeartbeats 800000 in
theorem operator_any (s : ByteArray) (w : World) : Calls Tryz.prog 181 #[.string s] w fun e w' => e = .returned (.int .i64 (placeL opersL s.data.toList : Nat)) ∧ Below w.heap.size w w' := by
  have h2 := place_any s _ w.heap.size 12 opersL (by decide) (strAt_new w opersL)
  go_enter Tryz.func181, Tryz.ntmps181
  go_wp2_with (first | (go_at_call 168; refine (operators_any _).mono ?_; rintro e w1 ⟨rfl, rfl⟩) | (go_at_call 180; refine h2.mono ?_; rintro e w2 ⟨rfl, rfl⟩))
  go_ret
  exact ⟨rfl, (Below.refl _ _).alloc (Nat.le_refl _) _⟩

set_option maxRecDepth 100000 in
set_option maxHeartbeats 800000 in
theorem ofType_any (k : Int) (w : World) : Calls Tryz.prog 123 #[.int .i64 k] w fun e w' => e = .returned (.string ⟨(atL typesL k).toArray⟩) ∧ Below w.heap.size w w' := by
  have h2 := at_any k _ w.heap.size 4 typesL (strAt_new w typesL)
  go_enter Tryz.func123, Tryz.ntmps123
  go_wp2_with (first | (go_at_call 157; refine (types_any _).mono ?_; rintro e w1 ⟨rfl, rfl⟩) | (go_at_call 156; refine h2.mono ?_; rintro e w2 ⟨rfl, rfl⟩))
  go_ret
  exact ⟨rfl, (Below.refl _ _).alloc (Nat.le_refl _) _⟩

set_option maxRecDepth 100000 in
set_option maxHeartbeats 800000 in
theorem ofOperator_any (k : Int) (w : World) : Calls Tryz.prog 138 #[.int .i64 k] w fun e w' => e = .returned (.string ⟨(atL opersL k).toArray⟩) ∧ Below w.heap.size w w' := by
  have h2 := at_any k _ w.heap.size 12 opersL (strAt_new w opersL)
  go_enter Tryz.func138, Tryz.ntmps138
  go_wp2_with (first | (go_at_call 168; refine (operators_any _).mono ?_; rintro e w1 ⟨rfl, rfl⟩) | (go_at_call 156; refine h2.mono ?_; rintro e w2 ⟨rfl, rfl⟩))
  go_ret
  exact ⟨rfl, (Below.refl _ _).alloc (Nat.le_refl _) _⟩

end Go.Proofs.YtkpeklealgicpabGreatDoor

namespace Go.Proofs.YtkpeklealgicpabGreatDoor
open Go.RowKit

theorem St.short {w : World} {base pb : Nat} {v : Value} {T : List Tk} {en : Int} {i : Nat} (h : St w base pb v T en i) : (tx T i).length ≤ 22 := by
  unfold tx
  cases hx : T[i]? with
  | none => simp
  | some x => exact (h.toks x (List.mem_of_getElem? hx)).short

theorem cast1 (i : Nat) : ((i + 1 : Nat) : Int) = (i : Int) + 1 := by omega

theorem name_lt {T : List Tk} {i : Nat} (h : nameW (tx T i) = true) : i < T.length := by
  refine tx_lt ?_
  intro e
  rw [e] at h
  revert h
  decide

set_option maxRecDepth 100000 in
set_option maxHeartbeats 800000 in
theorem name_any {w : World} {base pb : Nat} {v : Value} {T : List Tk} {en : Int} {i : Nat} (h : St w base pb v T en i) :
    Calls Tryz.prog 142 #[.pointer (some ⟨pb, 0, none⟩)] w fun e w' => Out w base pb v T en repS (nameP T i) e w' := by
  have hh := here_any h
  have hsz := h.short
  have hf := h.few
  cases hn : nameW (tx T i)
  · have hr : nameP T i = .bad i := by rw [nameP, if_neg (by simp [hn])]
    rw [hr]
    go_enter Tryz.func142, Tryz.ntmps142
    go_wp2_with (go_at_call 112; refine hh.mono ?_; rintro e w1 ⟨rfl, b1⟩)
    have s1 := h.below b1
    have b2 := (Below.refl w1.heap.size w1).alloc (Nat.le_refl _) (.cells #[.int .i64 (kd T i), .int .i64 (pl T en i), .string ⟨(tx T i).toArray⟩] 63)
    have s2 := s1.below b2
    refine (isName_any _ _ (by rw [size_mk]; omega) s2.gl).mono ?_
    rw [hn]
    rintro e w2 ⟨rfl, b3⟩
    have s3 := s2.below b3
    clear hn hh
    go_wp2_with (go_at_call 57; refine (giveUp_any s3).mono ?_; rintro e w3 ⟨rfl, b4⟩)
    exact ⟨rfl, .mkBad (grown_trans (grown_trans (grown_below b1 _) (grown_below b2 _)) (grown_trans (grown_below b3 _) (grown_below b4 _))) rfl⟩
  · have hr : nameP T i = .ok (tx T i) (i + 1) := by rw [nameP, if_pos hn]
    rw [hr]
    have hlt := name_lt hn
    go_enter Tryz.func142, Tryz.ntmps142
    go_wp2_with (go_at_call 112; refine hh.mono ?_; rintro e w1 ⟨rfl, b1⟩)
    have s1 := h.below b1
    have b2 := (Below.refl w1.heap.size w1).alloc (Nat.le_refl _) (.cells #[.int .i64 (kd T i), .int .i64 (pl T en i), .string ⟨(tx T i).toArray⟩] 63)
    have s2 := s1.below b2
    refine (isName_any _ _ (by rw [size_mk]; omega) s2.gl).mono ?_
    rw [hn]
    rintro e w2 ⟨rfl, b3⟩
    have s3 := s2.below b3
    obtain ⟨⟨c0, c1, c2⟩, f0, f1, f2⟩ := three s3.blk
    have d2 : w2.cell? ⟨w1.heap.size, 2, none⟩ = some (.string ⟨(tx T i).toArray⟩) := (b3.cell (by simp)).trans (by simp)
    have hne : w1.heap.size ≠ pb := by have := (Array.getElem?_eq_some_iff.1 s1.blk).1; omega
    have s4 := s3.set (i + 1) hlt
    have g4 := grown_trans (grown_trans (grown_below b1 _) (grown_below b2 _)) (grown_trans (grown_below b3 _) (grown_set w2 pb 1 (.int .i64 ((i + 1 : Nat) : Int))))
    rw [cast1] at s4 g4
    clear hn hh
    go_wp2_with fail
    go_ret
    exact .mkOk g4 rfl rfl s4

set_option maxRecDepth 100000 in
set_option maxHeartbeats 800000 in
theorem kindOf_type {w : World} {base pb : Nat} {v : Value} {T : List Tk} {en : Int} {i : Nat} (h : St w base pb v T en i) :
    Calls Tryz.prog 170 #[.pointer (some ⟨pb, 0, none⟩), .func (.func 171) #[] #[]] w fun e w' => Out w base pb v T en repN (kindOf T (placeL typesL) i) e w' := by
  have hh := here_any h
  have h0 : placeL typesL [] = 0 := by decide
  have t2 := tokf2
  have hsz := h.short
  have hfw := h.few
  go_enter Tryz.func170, Tryz.ntmps170
  go_wp2_with (go_at_call 112; refine hh.mono ?_; rintro e w1 ⟨rfl, b1⟩)
  have s1 := h.below b1
  refine (type_any _ _).mono ?_
  rintro e w2 ⟨rfl, b2⟩
  have s2 := s1.below b2
  have g2 : w.grownBy w2 (some pb) := grown_trans (grown_below b1 _) (grown_below b2 _)
  by_cases hn : placeL typesL (tx T i) = 0
  · have HR : Hid (kindOf T (placeL typesL) i = .bad i) := by show _ = _; rw [kindOf, if_pos hn]
    have hz : ((placeL typesL (tx T i) : Nat) : Int) = 0 := by omega
    simp only [hz]
    clear hn hh hz
    go_wp2_with (go_at_call 57; refine (giveUp_any s2).mono ?_; rintro e w3 ⟨rfl, b4⟩)
    exact ⟨rfl, .mkBad (grown_trans g2 (grown_below b4 _)) HR.out⟩
  · have HR : Hid (kindOf T (placeL typesL) i = .ok (placeL typesL (tx T i)) (i + 1)) := by show _ = _; rw [kindOf, if_neg hn]
    have hlt : i < T.length := tx_lt (by intro e; rw [e] at hn; exact hn h0)
    have hz : (((placeL typesL (tx T i) : Nat) : Int) == 0) = false := by simpa using hn
    obtain ⟨⟨c0, c1, c2⟩, f0, f1, f2⟩ := three s2.blk
    have s4 := s2.set (i + 1) hlt
    have g4 := grown_trans g2 (grown_set w2 pb 1 (.int .i64 ((i + 1 : Nat) : Int)))
    rw [cast1] at s4 g4
    clear hn hh h0
    go_wp2_with fail
    go_ret
    exact .mkOk g4 HR.out rfl s4

set_option maxRecDepth 100000 in
set_option maxHeartbeats 800000 in
theorem kindOf_oper {w : World} {base pb : Nat} {v : Value} {T : List Tk} {en : Int} {i : Nat} (h : St w base pb v T en i) :
    Calls Tryz.prog 170 #[.pointer (some ⟨pb, 0, none⟩), .func (.func 181) #[] #[]] w fun e w' => Out w base pb v T en repN (kindOf T (placeL opersL) i) e w' := by
  have hh := here_any h
  have h0 : placeL opersL [] = 0 := by decide
  have t2 := tokf2
  have hsz := h.short
  have hfw := h.few
  go_enter Tryz.func170, Tryz.ntmps170
  go_wp2_with (go_at_call 112; refine hh.mono ?_; rintro e w1 ⟨rfl, b1⟩)
  have s1 := h.below b1
  refine (operator_any _ _).mono ?_
  rintro e w2 ⟨rfl, b2⟩
  have s2 := s1.below b2
  have g2 : w.grownBy w2 (some pb) := grown_trans (grown_below b1 _) (grown_below b2 _)
  by_cases hn : placeL opersL (tx T i) = 0
  · have HR : Hid (kindOf T (placeL opersL) i = .bad i) := by show _ = _; rw [kindOf, if_pos hn]
    have hz : ((placeL opersL (tx T i) : Nat) : Int) = 0 := by omega
    simp only [hz]
    clear hn hh hz
    go_wp2_with (go_at_call 57; refine (giveUp_any s2).mono ?_; rintro e w3 ⟨rfl, b4⟩)
    exact ⟨rfl, .mkBad (grown_trans g2 (grown_below b4 _)) HR.out⟩
  · have HR : Hid (kindOf T (placeL opersL) i = .ok (placeL opersL (tx T i)) (i + 1)) := by show _ = _; rw [kindOf, if_neg hn]
    have hlt : i < T.length := tx_lt (by intro e; rw [e] at hn; exact hn h0)
    have hz : (((placeL opersL (tx T i) : Nat) : Int) == 0) = false := by simpa using hn
    obtain ⟨⟨c0, c1, c2⟩, f0, f1, f2⟩ := three s2.blk
    have s4 := s2.set (i + 1) hlt
    have g4 := grown_trans g2 (grown_set w2 pb 1 (.int .i64 ((i + 1 : Nat) : Int)))
    rw [cast1] at s4 g4
    clear hn hh h0
    go_wp2_with fail
    go_ret
    exact .mkOk g4 HR.out rfl s4

theorem num_ok {T : List Tk} (hT : ∀ x ∈ T, TokOk x) {i : Nat} (hk : kd T i = 2) : tx T i ≠ [] ∧ (tx T i).length ≤ 9 ∧ ∀ c ∈ tx T i, isD c = true := by
  unfold kd at hk
  unfold tx
  cases hx : T[i]? with
  | none => rw [hx] at hk; cases hk
  | some x => rw [hx] at hk; exact (hT x (List.mem_of_getElem? hx)).num hk

set_option maxRecDepth 100000 in
set_option maxHeartbeats 800000 in
theorem number_any {w : World} {base pb : Nat} {v : Value} {T : List Tk} {en : Int} {i : Nat} (h : St w base pb v T en i) (least : Nat) :
    Calls Tryz.prog 152 #[.pointer (some ⟨pb, 0, none⟩), .int .i64 (least : Int)] w fun e w' => Out w base pb v T en repN (numberP T least i) e w' := by
  have hh := here_any h
  have hsz := h.short
  have hfw := h.few
  have hnum := num_ok h.toks (i := i)
  go_enter Tryz.func152, Tryz.ntmps152
  go_wp2_with (go_at_call 112; refine hh.mono ?_; rintro e w1 ⟨rfl, b1⟩)
  have s1 := h.below b1
  have b2 := (Below.refl w1.heap.size w1).alloc (Nat.le_refl _) (.cells #[.int .i64 (kd T i), .int .i64 (pl T en i), .string ⟨(tx T i).toArray⟩] 63)
  have s2 := s1.below b2
  refine (atoi_any _ _ (by rw [size_mk]; omega) s2.gl).mono ?_
  rintro e w2 ⟨⟨x, rfl⟩, b3⟩
  have s3 := s2.below b3
  have d0 : w2.cell? ⟨w1.heap.size, 0, none⟩ = some (.int .i64 (kd T i)) := (b3.cell (by simp)).trans (by simp)
  have g3 := grown_trans (grown_trans (grown_below b1 (some pb)) (grown_below b2 _)) (grown_below b3 _)
  have e0 : (⟨(tx T i).toArray⟩ : ByteArray).data.toList = tx T i := by simp
  rw [e0]
  clear b2 s2 b3
  by_cases hk : kd T i = 2
  · obtain ⟨n0, n9, nd⟩ := hnum hk
    rw [atoiV_digits _ n0 n9 nd]
    have hlt : i < T.length := tx_lt n0
    have hz : (kd T i != 2) = false := by simp [hk]
    clear n0 n9 nd hnum e0
    by_cases hl : least ≤ decN (tx T i)
    · have HR : Hid (numberP T least i = .ok (decN (tx T i)) (i + 1)) := by show _ = _; rw [numberP, if_pos ⟨hk, hl⟩]
      obtain ⟨⟨c0, c1, c2⟩, f0, f1, f2⟩ := three s3.blk
      have s4 := s3.set (i + 1) hlt
      have g4 := grown_trans g3 (grown_set w2 pb 1 (.int .i64 ((i + 1 : Nat) : Int)))
      rw [cast1] at s4 g4
      have hl2 : ¬ decN (tx T i) < least := by omega
      clear hh hk hl
      go_wp2_with fail
      go_ret
      exact .mkOk g4 HR.out rfl s4
    · have HR : Hid (numberP T least i = .bad i) := by show _ = _; rw [numberP, if_neg (by simp [hl])]
      have hl2 : decN (tx T i) < least := by omega
      clear hh hk hl
      go_wp2_with (go_at_call 57; refine (giveUp_any s3).mono ?_; rintro e w3 ⟨rfl, b4⟩)
      exact ⟨rfl, .mkBad (grown_trans g3 (grown_below b4 _)) HR.out⟩
  · have HR : Hid (numberP T least i = .bad i) := by show _ = _; rw [numberP, if_neg (by simp [hk])]
    have hz : (kd T i != 2) = true := by simpa using hk
    clear hh hk hnum e0
    go_wp2_with (go_at_call 57; refine (giveUp_any s3).mono ?_; rintro e w3 ⟨rfl, b4⟩)
    exact ⟨rfl, .mkBad (grown_trans g3 (grown_below b4 _)) HR.out⟩

end Go.Proofs.YtkpeklealgicpabGreatDoor

namespace Go.Proofs.YtkpeklealgicpabGreatDoor
open Go.RowKit

theorem grown_put {w w' : World} {r : Option Nat} (h : w.grownBy w' r) {b : Nat} (hb : w.heap.size ≤ b) (o : Nat) (x : Value) : w.grownBy (w'.setCell ⟨b, o, none⟩ x) r :=
  ⟨h.os, h.tape, h.output, by simpa [World.setCell] using h.size, fun k hk hr => (heap_setCell_other w' ⟨b, o, none⟩ k x (by simp only; omega)).trans (h.block k hk hr)⟩
theorem grown_alloc {w w' : World} {r : Option Nat} (h : w.grownBy w' r) (o : Obj) : w.grownBy (w'.alloc o) r :=
  grown_trans h (grown_below ((Below.refl _ _).alloc (Nat.le_refl _) o) r)

theorem St.fresh {w : World} {base pb : Nat} {v : Value} {T : List Tk} {en : Int} {i : Nat} (h : St w base pb v T en i) {b : Nat} (hb : w.heap.size ≤ b) : b ≠ pb ∧ v.ownBlock ≠ some b ∧ 6 ≤ b := by
  refine ⟨?_, ?_, Nat.le_trans h.gl.sz hb⟩
  · have := (Array.getElem?_eq_some_iff.1 h.blk).1; omega
  · rcases h.own.2 with ⟨hv, -⟩ | ⟨g, cap, cur, hv, -, hg, -⟩
    · rw [hv]; simp [Value.ownBlock]
    · rw [hv]
      have := (Array.getElem?_eq_some_iff.1 hg).1
      simp only [Value.ownBlock, ne_eq, Option.some.injEq]
      omega

theorem St.put {w : World} {base pb : Nat} {v : Value} {T : List Tk} {en : Int} {i : Nat} (h : St w base pb v T en i) {b : Nat} (hb : b ≠ pb ∧ v.ownBlock ≠ some b ∧ 6 ≤ b) (o : Nat) (x : Value) : St (w.setCell ⟨b, o, none⟩ x) base pb v T en i :=
  ⟨(heap_setCell_other w ⟨b, o, none⟩ pb x (Ne.symm hb.1)).trans h.blk, h.own.kept (grown_set w b o x) (.inr hb.2.1), h.ne, h.le, h.few, h.six, h.gl.grown hb.2.2 (grown_set w b o x), h.toks⟩

theorem St.alloc {w : World} {base pb : Nat} {v : Value} {T : List Tk} {en : Int} {i : Nat} (h : St w base pb v T en i) (o : Obj) : St (w.alloc o) base pb v T en i := h.below ((Below.refl _ _).alloc (Nat.le_refl _) o)

theorem two {W : World} {b : Nat} {x y : Value} {t : TypeId} (h : W.heap[b]? = some (.cells #[x, y] t)) :
    (W.cell? ⟨b, 0, none⟩ = some x ∧ W.cell? ⟨b, 1, none⟩ = some y) ∧ (W.frozen? ⟨b, 0, none⟩ = false ∧ W.frozen? ⟨b, 1, none⟩ = false) := by
  refine ⟨⟨?_, ?_⟩, Lib.frozen_of_heap h 0, Lib.frozen_of_heap h 1⟩
  · rw [Lib.cell_of_heap h]; rfl
  · rw [Lib.cell_of_heap h]; rfl
theorem two_put {W : World} {b : Nat} {x y : Value} {t : TypeId} (h : W.heap[b]? = some (.cells #[x, y] t)) (x' y' : Value) :
    ((W.setCell ⟨b, 0, none⟩ x').setCell ⟨b, 1, none⟩ y').heap[b]? = some (.cells #[x', y'] t) :=
  heap_setCell_same _ b 1 _ t y' (heap_setCell_same W b 0 _ t x' h)
theorem three_put {W : World} {b : Nat} {x y z : Value} {t : TypeId} (h : W.heap[b]? = some (.cells #[x, y, z] t)) (x' y' z' : Value) :
    (((W.setCell ⟨b, 0, none⟩ x').setCell ⟨b, 1, none⟩ y').setCell ⟨b, 2, none⟩ z').heap[b]? = some (.cells #[x', y', z'] t) :=
  heap_setCell_same _ b 2 _ t z' (heap_setCell_same _ b 1 _ t y' (heap_setCell_same W b 0 _ t x' h))

def clV (c : Cl) : Value := .agg #[.string ⟨c.name.toArray⟩, .int .i64 c.ty]
def vlV (x : Vl) : Value := .agg #[.int .i64 x.k, .int .i64 x.n, .string ⟨x.s.toArray⟩]
def repC (_ : World) (u : Value) (c : Cl) : Prop := u = clV c
def repV (_ : World) (u : Value) (x : Vl) : Prop := u = vlV x

set_option maxRecDepth 100000 in
set_option maxHeartbeats 800000 in
theorem column_any {w : World} {base pb : Nat} {v : Value} {T : List Tk} {en : Int} {i : Nat} (h : St w base pb v T en i) :
    Calls Tryz.prog 144 #[.pointer (some ⟨pb, 0, none⟩)] w fun e w' => Out w base pb v T en repC (columnP T i) e w' := by
  have hfr := h.fresh (Nat.le_refl _)
  have s0 := h.alloc (.cells #[.string ⟨#[]⟩, .int .i64 0] 56)
  have g0 := grown_alloc (grown_refl w (some pb)) (.cells #[.string ⟨#[]⟩, .int .i64 0] 56)
  have k0 : (w.alloc (.cells #[.string ⟨#[]⟩, .int .i64 0] 56)).heap[w.heap.size]? = some (.cells #[.string ⟨#[]⟩, .int .i64 0] 56) := heap_alloc_new _ _
  go_enter Tryz.func144, Tryz.ntmps144
  go_wp2_with fail
  refine (name_any s0).mono ?_
  intro e w1 o1
  have g1 := grown_trans g0 o1.grown
  cases hn : nameP T i with
  | bad j =>
    obtain rfl := o1.bad j hn
    exact ⟨rfl, .mkBad g1 (by simp [columnP, hn])⟩
  | ok s j =>
    obtain ⟨u, rfl, hu, s1⟩ := o1.ok s j hn
    cases hu
    have k1 := (o1.grown.block w.heap.size (by simp) (by simpa using hfr.1)).trans k0
    have HN : Hid (nameP T i = .ok s j) := hn
    clear hn o1 k0 g0 s0
    go_wp2_with fail
    refine (kindOf_type s1).mono ?_
    intro e w2 o2
    have g2 := grown_trans g1 o2.grown
    cases hk : kindOf T (placeL typesL) j with
    | bad j2 =>
      obtain rfl := o2.bad j2 hk
      exact ⟨rfl, .mkBad g2 (by simp [columnP, HN.out, hk])⟩
    | ok k j2 =>
      obtain ⟨u, rfl, hu, s2⟩ := o2.ok k j2 hk
      cases hu
      have k2 := (o2.grown.block w.heap.size (by have := g1.size; have := (Array.getElem?_eq_some_iff.1 k1).1; omega) (by simpa using hfr.1)).trans k1
      have HR : Hid (columnP T i = .ok ⟨s, (k : Nat)⟩ j2) := by show _ = _; simp [columnP, HN.out, hk]
      obtain ⟨⟨c0, c1⟩, f0, f1⟩ := two k2
      have k3 := two_put k2 (.string ⟨s.toArray⟩) (.int .i64 (k : Int))
      have s3 := (s2.put hfr 0 (.string ⟨s.toArray⟩)).put hfr 1 (.int .i64 (k : Int))
      have g3 := grown_put (grown_put g2 (Nat.le_refl _) 0 (.string ⟨s.toArray⟩)) (Nat.le_refl _) 1 (.int .i64 (k : Int))
      clear hk o2 k1 k2 HN g1 s1 s2 g2
      go_wp2_with fail
      generalize (w2.setCell ⟨w.heap.size, 0, none⟩ (.string ⟨s.toArray⟩)).setCell ⟨w.heap.size, 1, none⟩ (.int .i64 (k : Int)) = w3 at *
      obtain ⟨⟨e0, e1⟩, -⟩ := two k3
      refine bodyPost_ret (v := clV ⟨s, (k : Nat)⟩) ?_ rfl (.mkOk g3 HR.out rfl s3)
      simp [results, Tryz.results144, go_sem, clV, e0, e1]

set_option maxRecDepth 100000 in
set_option maxHeartbeats 800000 in
theorem value_num {w : World} {base pb : Nat} {v : Value} {T : List Tk} {en : Int} {i : Nat} (h : St w base pb v T en i) (hk : kd T i = 2) :
    Calls Tryz.prog 146 #[.pointer (some ⟨pb, 0, none⟩)] w fun e w' => Out w base pb v T en repV (valueP T i) e w' := by
  have hh := here_any (h.alloc (.cells #[.int .i64 0, .int .i64 0, .string ⟨#[]⟩] 24))
  have hfr := h.fresh (Nat.le_refl _)
  have s0 := h.alloc (.cells #[.int .i64 0, .int .i64 0, .string ⟨#[]⟩] 24)
  have g0 := grown_alloc (grown_refl w (some pb)) (.cells #[.int .i64 0, .int .i64 0, .string ⟨#[]⟩] 24)
  have k0 : (w.alloc (.cells #[.int .i64 0, .int .i64 0, .string ⟨#[]⟩] 24)).heap[w.heap.size]? = some (.cells #[.int .i64 0, .int .i64 0, .string ⟨#[]⟩] 24) := heap_alloc_new _ _
  rw [hk] at hh
  have hsz := h.short
  have hfw := h.few
  go_enter Tryz.func146, Tryz.ntmps146
  go_wp2_with (go_at_call 112; refine hh.mono ?_; rintro e w1 ⟨rfl, b1⟩)
  have s1 := (s0.below b1).alloc (.cells #[.int .i64 2, .int .i64 (pl T en i), .string ⟨(tx T i).toArray⟩] 63)
  have g1 := grown_alloc (grown_trans g0 (grown_below b1 _)) (.cells #[.int .i64 2, .int .i64 (pl T en i), .string ⟨(tx T i).toArray⟩] 63)
  have k1 : (w1.alloc (.cells #[.int .i64 2, .int .i64 (pl T en i), .string ⟨(tx T i).toArray⟩] 63)).heap[w.heap.size]? = some (.cells #[.int .i64 0, .int .i64 0, .string ⟨#[]⟩] 24) :=
    (((Below.refl _ _).alloc (Nat.le_refl _) _).block _ (by have := b1.size; simp at this; omega)).trans ((b1.block _ (by simp)).trans k0)
  clear hh b1 k0 g0 s0
  refine (number_any s1 0).mono ?_
  intro e w2 o2
  have g2 := grown_trans g1 o2.grown
  cases hn : numberP T 0 i with
  | bad j =>
    obtain rfl := o2.bad j hn
    exact ⟨rfl, .mkBad g2 (by simp [valueP, hk, hn])⟩
  | ok n j =>
    obtain ⟨u, rfl, hu, s2⟩ := o2.ok n j hn
    cases hu
    have k2 := (o2.grown.block w.heap.size (Array.getElem?_eq_some_iff.1 k1).1 (by simpa using hfr.1)).trans k1
    have HR : Hid (valueP T i = .ok ⟨1, (n : Nat), []⟩ j) := by show _ = _; simp [valueP, hk, hn]
    obtain ⟨⟨c0, c1, c2⟩, f0, f1, f2⟩ := three k2
    have kz := three_put k2 (.int .i64 1) (.int .i64 (n : Int)) (.string ⟨#[]⟩)
    have sz := ((s2.put hfr 0 (.int .i64 1)).put hfr 1 (.int .i64 (n : Int))).put hfr 2 (.string ⟨#[]⟩)
    have gz := grown_put (grown_put (grown_put g2 (Nat.le_refl _) 0 (.int .i64 1)) (Nat.le_refl _) 1 (.int .i64 (n : Int))) (Nat.le_refl _) 2 (.string ⟨#[]⟩)
    clear hn o2 k1 k2 g1 g2 s1 s2 hk
    go_wp2_with fail
    generalize ((w2.setCell ⟨w.heap.size, 0, none⟩ (.int .i64 1)).setCell ⟨w.heap.size, 1, none⟩ (.int .i64 (n : Int))).setCell ⟨w.heap.size, 2, none⟩ (.string ⟨#[]⟩) = wz at *
    obtain ⟨⟨e0, e1, e2⟩, -⟩ := three kz
    refine bodyPost_ret (v := vlV ⟨1, (n : Nat), []⟩) ?_ rfl (.mkOk gz HR.out rfl sz)
    simp [results, Tryz.results146, go_sem, vlV, e0, e1, e2]

theorem txt_ok {T : List Tk} (hT : ∀ x ∈ T, TokOk x) {i : Nat} (hk : kd T i = 3) : 2 ≤ (tx T i).length := by
  unfold kd at hk
  unfold tx
  cases hx : T[i]? with
  | none => rw [hx] at hk; cases hk
  | some x => rw [hx] at hk; exact (hT x (List.mem_of_getElem? hx)).txt hk

theorem inner (l : List UInt8) (a b : Nat) : (⟨l.toArray⟩ : ByteArray).extract a b = ⟨((l.drop a).take (b - a)).toArray⟩ := by
  have h : ((⟨l.toArray⟩ : ByteArray).extract a b).data = ((l.drop a).take (b - a)).toArray := by
    rw [ByteArray.data_extract]; simp
  rw [← h]

set_option maxRecDepth 100000 in
set_option maxHeartbeats 800000 in
theorem value_txt {w : World} {base pb : Nat} {v : Value} {T : List Tk} {en : Int} {i : Nat} (h : St w base pb v T en i) (hk : kd T i = 3) :
    Calls Tryz.prog 146 #[.pointer (some ⟨pb, 0, none⟩)] w fun e w' => Out w base pb v T en repV (valueP T i) e w' := by
  have hh := here_any (h.alloc (.cells #[.int .i64 0, .int .i64 0, .string ⟨#[]⟩] 24))
  have hfr := h.fresh (Nat.le_refl _)
  have s0 := h.alloc (.cells #[.int .i64 0, .int .i64 0, .string ⟨#[]⟩] 24)
  have g0 := grown_alloc (grown_refl w (some pb)) (.cells #[.int .i64 0, .int .i64 0, .string ⟨#[]⟩] 24)
  have k0 : (w.alloc (.cells #[.int .i64 0, .int .i64 0, .string ⟨#[]⟩] 24)).heap[w.heap.size]? = some (.cells #[.int .i64 0, .int .i64 0, .string ⟨#[]⟩] 24) := heap_alloc_new _ _
  rw [hk] at hh
  have hlen := txt_ok h.toks hk
  have hlt : i < T.length := tx_lt (by intro e; rw [e] at hlen; simp at hlen)
  have hbs := size_mk (tx T i)
  have HR : Hid (valueP T i = .ok ⟨2, 0, ((tx T i).drop 1).take ((tx T i).length - 2)⟩ (i + 1)) := by show _ = _; simp [valueP, hk]
  have hsz := h.short
  have hfw := h.few
  go_enter Tryz.func146, Tryz.ntmps146
  go_wp2_with (go_at_call 112; refine hh.mono ?_; rintro e w1 ⟨rfl, b1⟩; have s1 := s0.below b1; have D1 := fun o => (three (s1.alloc o).blk).1.2.1; have F1 := fun o => (three (s1.alloc o).blk).2.2.1; have hz1 : w1.heap.size ≠ pb := (s1.fresh (Nat.le_refl _)).1; have hz2 : w.heap.size < w1.heap.size := (by have := b1.size; simp at this; omega); have hz3 := hfr.1; have K := fun o => (((Below.refl w1.heap.size w1).alloc (Nat.le_refl _) o).block _ hz2).trans ((b1.block _ (by simp)).trans k0); have E0 := fun o => (three (K o)).1.1; have E1 := fun o => (three (K o)).1.2.1; have E2 := fun o => (three (K o)).1.2.2; have G0 := fun o => (three (K o)).2.1; have G1 := fun o => (three (K o)).2.2.1; have G2 := fun o => (three (K o)).2.2.2)
  rw [inner, show (tx T i).length - 1 - 1 = (tx T i).length - 2 by omega]
  have s2 := (s1.alloc (.cells #[.int .i64 3, .int .i64 (pl T en i), .string ⟨(tx T i).toArray⟩] 63)).set (i + 1) hlt
  have g2 := grown_trans (grown_alloc (grown_trans g0 (grown_below b1 _)) (.cells #[.int .i64 3, .int .i64 (pl T en i), .string ⟨(tx T i).toArray⟩] 63)) (grown_set _ pb 1 (.int .i64 ((i + 1 : Nat) : Int)))
  have k2 := (heap_setCell_other (w1.alloc (.cells #[.int .i64 3, .int .i64 (pl T en i), .string ⟨(tx T i).toArray⟩] 63)) ⟨pb, 1, none⟩ w.heap.size (.int .i64 ((i + 1 : Nat) : Int)) hz3).trans (K _)
  rw [cast1] at s2 g2 k2
  have kz := three_put k2 (.int .i64 2) (.int .i64 0) (.string ⟨(((tx T i).drop 1).take ((tx T i).length - 2)).toArray⟩)
  have sz := ((s2.put hfr 0 (.int .i64 2)).put hfr 1 (.int .i64 0)).put hfr 2 (.string ⟨(((tx T i).drop 1).take ((tx T i).length - 2)).toArray⟩)
  have gz := grown_put (grown_put (grown_put g2 (Nat.le_refl _) 0 (.int .i64 2)) (Nat.le_refl _) 1 (.int .i64 0)) (Nat.le_refl _) 2 (.string ⟨(((tx T i).drop 1).take ((tx T i).length - 2)).toArray⟩)
  generalize ((((w1.alloc (.cells #[.int .i64 3, .int .i64 (pl T en i), .string ⟨(tx T i).toArray⟩] 63)).setCell ⟨pb, 1, none⟩ (.int .i64 ((i : Int) + 1))).setCell ⟨w.heap.size, 0, none⟩ (.int .i64 2)).setCell ⟨w.heap.size, 1, none⟩ (.int .i64 0)).setCell ⟨w.heap.size, 2, none⟩ (.string ⟨(((tx T i).drop 1).take ((tx T i).length - 2)).toArray⟩) = wz at *
  obtain ⟨⟨e0, e1, e2⟩, -⟩ := three kz
  refine bodyPost_ret (v := vlV ⟨2, 0, ((tx T i).drop 1).take ((tx T i).length - 2)⟩) ?_ rfl (.mkOk gz HR.out rfl sz)
  simp [results, Tryz.results146, go_sem, vlV, e0, e1, e2]

theorem St.heapLt {w : World} {base pb : Nat} {v : Value} {T : List Tk} {en : Int} {i : Nat} (h : St w base pb v T en i) : pb < w.heap.size := (Array.getElem?_eq_some_iff.1 h.blk).1

theorem Out.back {α : Type} {W W' : World} {base pb : Nat} {v : Value} {T : List Tk} {en : Int} {rep : World → Value → α → Prop} {r : Rs α} {e : Ending} {w' : World} (h : Out W' base pb v T en rep r e w') (hg : W.grownBy W' (some pb)) : Out W base pb v T en rep r e w' :=
  ⟨grown_trans hg h.grown, h.ok, h.bad⟩

theorem oneOf_new {W : World} {base pb : Nat} {v : Value} {T : List Tk} {en : Int} {i : Nat} (h : St W base pb v T en i) (ws : List (List UInt8)) (n b : Nat) (hb : b = W.heap.size) (lit : Array Value) (hl : lit = strsOf ws) (hn : ws.length = n) (h1 : n ≤ 100) (h0 : ∀ s ∈ ws, s ≠ []) :
    Calls Tryz.prog 104 #[.pointer (some ⟨pb, 0, none⟩), .slice (some ⟨b, 0, none⟩) n n] (W.alloc (.cells lit 9)) fun e w' => Out W base pb v T en repS (oneOf T ws i) e w' := by
  subst hl hn hb
  exact (oneOf_some (h.alloc _) W.heap.size ws.length ws (h.fresh (Nat.le_refl _)).1 (by simp) h1 (strAt_new W ws) h0).mono fun e w' o => o.back (grown_alloc (grown_refl W _) _)

theorem must_new {W : World} {base pb : Nat} {v : Value} {T : List Tk} {en : Int} {i : Nat} (h : St W base pb v T en i) (ws : List (List UInt8)) (n b : Nat) (hb : b = W.heap.size) (lit : Array Value) (hl : lit = strsOf ws) (hn : ws.length = n) (h1 : n ≤ 100) (h0 : ∀ s ∈ ws, s ≠ []) :
    Calls Tryz.prog 145 #[.pointer (some ⟨pb, 0, none⟩), .slice (some ⟨b, 0, none⟩) n n] (W.alloc (.cells lit 9)) fun e w' => Out W base pb v T en repU (must T ws i) e w' := by
  subst hl hn hb
  exact (must_some (h.alloc _) W.heap.size ws.length ws (h.fresh (Nat.le_refl _)).1 (by simp) h1 (strAt_new W ws) h0).mono fun e w' o => o.back (grown_alloc (grown_refl W _) _)

theorem may_new {W : World} {base pb : Nat} {v : Value} {T : List Tk} {en : Int} {i : Nat} (h : St W base pb v T en i) (s : List UInt8) (hs : s ≠ []) (ws : List (List UInt8)) (n b : Nat) (hb : b = W.heap.size) (lit : Array Value) (hl : lit = strsOf ws) (hn : ws.length = n) (h1 : n ≤ 100) (h0 : ∀ s ∈ ws, s ≠ []) :
    Calls Tryz.prog 141 #[.pointer (some ⟨pb, 0, none⟩), .string ⟨s.toArray⟩, .slice (some ⟨b, 0, none⟩) n n] (W.alloc (.cells lit 9)) fun e w' => Out W base pb v T en repB (may T s ws i) e w' := by
  subst hl hn hb
  exact (may_any (h.alloc _) s hs _ ws (.inr ⟨W.heap.size, _, rfl, (h.fresh (Nat.le_refl _)).1, by simp, strAt_new W ws⟩) h1 h0).mono fun e w' o => o.back (grown_alloc (grown_refl W _) _)

theorem may_one {W : World} {base pb : Nat} {v : Value} {T : List Tk} {en : Int} {i : Nat} (h : St W base pb v T en i) (s : List UInt8) (hs : s ≠ []) :
    Calls Tryz.prog 141 #[.pointer (some ⟨pb, 0, none⟩), .string ⟨s.toArray⟩, .slice none 0 0] W fun e w' => Out W base pb v T en repB (may T s [] i) e w' :=
  may_any h s hs _ [] (.inl ⟨rfl, rfl⟩) (by decide) (by simp)

theorem oneOf_mem (T : List Tk) (i : Nat) (s : List UInt8) (j : Nat) : ∀ ws, oneOf T ws i = .ok s j → s ∈ ws := by
  intro ws
  induction ws with
  | nil => intro h; cases h
  | cons x r ih =>
    intro h
    rw [oneOf] at h
    split at h
    · cases h; exact List.mem_cons_self ..
    · exact List.mem_cons_of_mem _ (ih h)

theorem number_lt {T : List Tk} (hT : ∀ x ∈ T, TokOk x) {least i n j : Nat} (h : numberP T least i = .ok n j) : n < 1000000000 := by
  rw [numberP] at h
  split at h
  · rename_i hk
    cases h
    obtain ⟨-, h9, hd⟩ := num_ok hT hk.1
    exact Nat.lt_of_lt_of_le (decN_lt _ hd) (Nat.pow_le_pow_right (by decide) h9)
  · cases h

set_option maxRecDepth 100000 in
set_option maxHeartbeats 800000 in
theorem value_sign {w : World} {base pb : Nat} {v : Value} {T : List Tk} {en : Int} {i : Nat} (h : St w base pb v T en i) (hk2 : kd T i ≠ 2) (hk3 : kd T i ≠ 3) :
    Calls Tryz.prog 146 #[.pointer (some ⟨pb, 0, none⟩)] w fun e w' => Out w base pb v T en repV (valueP T i) e w' := by
  have hh := here_any (h.alloc (.cells #[.int .i64 0, .int .i64 0, .string ⟨#[]⟩] 24))
  have hfr := h.fresh (Nat.le_refl _)
  have s0 := h.alloc (.cells #[.int .i64 0, .int .i64 0, .string ⟨#[]⟩] 24)
  have g0 := grown_alloc (grown_refl w (some pb)) (.cells #[.int .i64 0, .int .i64 0, .string ⟨#[]⟩] 24)
  have k0 : (w.alloc (.cells #[.int .i64 0, .int .i64 0, .string ⟨#[]⟩] 24)).heap[w.heap.size]? = some (.cells #[.int .i64 0, .int .i64 0, .string ⟨#[]⟩] 24) := heap_alloc_new _ _
  have q2 : (kd T i == 2) = false := by simpa using hk2
  have q3 : (kd T i == 3) = false := by simpa using hk3
  have HV : Hid (valueP T i = (oneOf T [[45], w_true, w_false, w_null] i).then fun s j =>
    if s = [45] then (numberP T 1 j).then fun n j => .ok ⟨1, -(n : Nat), []⟩ j
    else if s = w_true then .ok ⟨3, 1, []⟩ j
    else if s = w_false then .ok ⟨3, 0, []⟩ j
    else .ok vl0 j) := by show _ = _; rw [valueP, if_neg hk2, if_neg hk3]
  have htk := h.toks
  clear hk2 hk3
  go_enter Tryz.func146, Tryz.ntmps146
  go_wp2_with (go_at_call 112; refine hh.mono ?_; rintro e w1 ⟨rfl, b1⟩)
  have s1 := (s0.below b1).alloc (.cells #[.int .i64 (kd T i), .int .i64 (pl T en i), .string ⟨(tx T i).toArray⟩] 63)
  have g1 := grown_alloc (grown_trans g0 (grown_below b1 _)) (.cells #[.int .i64 (kd T i), .int .i64 (pl T en i), .string ⟨(tx T i).toArray⟩] 63)
  have k1 : (w1.alloc (.cells #[.int .i64 (kd T i), .int .i64 (pl T en i), .string ⟨(tx T i).toArray⟩] 63)).heap[w.heap.size]? = some (.cells #[.int .i64 0, .int .i64 0, .string ⟨#[]⟩] 24) :=
    (((Below.refl _ _).alloc (Nat.le_refl _) _).block _ (by have := b1.size; simp at this; omega)).trans ((b1.block _ (by simp)).trans k0)
  clear hh b1 k0 g0 s0
  refine (oneOf_new s1 [[45], w_true, w_false, w_null] 4 _ (by simp) _ (by rfl) (by rfl) (by decide) (by decide)).mono ?_
  intro e w2 o2
  have g2 := grown_trans g1 o2.grown
  have h2 := HV.out
  clear HV
  cases hn : oneOf T [[45], w_true, w_false, w_null] i with
  | bad j =>
    obtain rfl := o2.bad j hn
    rw [hn, Rs.then_bad] at h2
    exact ⟨rfl, .mkBad g2 h2⟩
  | ok s j =>
    obtain ⟨u, rfl, hu, s2⟩ := o2.ok s j hn
    cases hu
    have k2 := (o2.grown.block w.heap.size (Array.getElem?_eq_some_iff.1 k1).1 (by simpa using hfr.1)).trans k1
    have hm := oneOf_mem T i s j _ hn
    rw [hn, Rs.then_ok] at h2
    clear hn o2 k1 s1 g1
    simp only [List.mem_cons, List.not_mem_nil, or_false] at hm
    rcases hm with rfl | rfl | rfl | rfl
    · rw [if_pos rfl] at h2
      have HV : Hid (valueP T i = (numberP T 1 j).then fun n j => .ok ⟨1, -(n : Nat), []⟩ j) := h2
      clear h2
      go_wp2_with fail
      refine (number_any s2 1).mono ?_
      intro e w3 o3
      have g3 := grown_trans g2 o3.grown
      have h3 := HV.out
      clear HV
      cases hn : numberP T 1 j with
      | bad j3 =>
        obtain rfl := o3.bad j3 hn
        rw [hn, Rs.then_bad] at h3
        exact ⟨rfl, .mkBad g3 h3⟩
      | ok n j3 =>
        obtain ⟨u, rfl, hu, s3⟩ := o3.ok n j3 hn
        cases hu
        have k3 := (o3.grown.block w.heap.size (Array.getElem?_eq_some_iff.1 k2).1 (by simpa using hfr.1)).trans k2
        have hlt := number_lt htk hn
        rw [hn, Rs.then_ok] at h3
        have HV : Hid (valueP T i = .ok ⟨1, -(n : Nat), []⟩ j3) := h3
        obtain ⟨⟨c0, c1, c2⟩, f0, f1, f2⟩ := three k3
        have kz := three_put k3 (.int .i64 1) (.int .i64 (-(n : Int))) (.string ⟨#[]⟩)
        have sz := ((s3.put hfr 0 (.int .i64 1)).put hfr 1 (.int .i64 (-(n : Int)))).put hfr 2 (.string ⟨#[]⟩)
        have gz := grown_put (grown_put (grown_put g3 (Nat.le_refl _) 0 (.int .i64 1)) (Nat.le_refl _) 1 (.int .i64 (-(n : Int)))) (Nat.le_refl _) 2 (.string ⟨#[]⟩)
        clear hn o3 k2 k3 s2 s3 g2 g3 h3
        go_wp2_with fail
        generalize ((w3.setCell ⟨w.heap.size, 0, none⟩ (.int .i64 1)).setCell ⟨w.heap.size, 1, none⟩ (.int .i64 (-(n : Int)))).setCell ⟨w.heap.size, 2, none⟩ (.string ⟨#[]⟩) = wz at *
        obtain ⟨⟨e0, e1, e2⟩, -⟩ := three kz
        refine bodyPost_ret (v := vlV ⟨1, -(n : Nat), []⟩) ?_ rfl (.mkOk gz HV.out rfl sz)
        simp [results, Tryz.results146, go_sem, vlV, e0, e1, e2]
    · rw [if_neg (by decide), if_pos rfl] at h2
      have HV : Hid (valueP T i = .ok ⟨3, 1, []⟩ j) := h2
      obtain ⟨⟨c0, c1, c2⟩, f0, f1, f2⟩ := three k2
      have kz := three_put k2 (.int .i64 3) (.int .i64 1) (.string ⟨#[]⟩)
      have sz := ((s2.put hfr 0 (.int .i64 3)).put hfr 1 (.int .i64 1)).put hfr 2 (.string ⟨#[]⟩)
      have gz := grown_put (grown_put (grown_put g2 (Nat.le_refl _) 0 (.int .i64 3)) (Nat.le_refl _) 1 (.int .i64 1)) (Nat.le_refl _) 2 (.string ⟨#[]⟩)
      clear h2 k2 s2 g2
      go_wp2_with fail
      generalize ((w2.setCell ⟨w.heap.size, 0, none⟩ (.int .i64 3)).setCell ⟨w.heap.size, 1, none⟩ (.int .i64 1)).setCell ⟨w.heap.size, 2, none⟩ (.string ⟨#[]⟩) = wz at *
      obtain ⟨⟨e0, e1, e2⟩, -⟩ := three kz
      refine bodyPost_ret (v := vlV ⟨3, 1, []⟩) ?_ rfl (.mkOk gz HV.out rfl sz)
      simp [results, Tryz.results146, go_sem, vlV, e0, e1, e2]
    · rw [if_neg (by decide), if_neg (by decide), if_pos rfl] at h2
      have HV : Hid (valueP T i = .ok ⟨3, 0, []⟩ j) := h2
      obtain ⟨⟨c0, c1, c2⟩, f0, f1, f2⟩ := three k2
      have kz := three_put k2 (.int .i64 3) (.int .i64 0) (.string ⟨#[]⟩)
      have sz := ((s2.put hfr 0 (.int .i64 3)).put hfr 1 (.int .i64 0)).put hfr 2 (.string ⟨#[]⟩)
      have gz := grown_put (grown_put (grown_put g2 (Nat.le_refl _) 0 (.int .i64 3)) (Nat.le_refl _) 1 (.int .i64 0)) (Nat.le_refl _) 2 (.string ⟨#[]⟩)
      clear h2 k2 s2 g2
      go_wp2_with fail
      generalize ((w2.setCell ⟨w.heap.size, 0, none⟩ (.int .i64 3)).setCell ⟨w.heap.size, 1, none⟩ (.int .i64 0)).setCell ⟨w.heap.size, 2, none⟩ (.string ⟨#[]⟩) = wz at *
      obtain ⟨⟨e0, e1, e2⟩, -⟩ := three kz
      refine bodyPost_ret (v := vlV ⟨3, 0, []⟩) ?_ rfl (.mkOk gz HV.out rfl sz)
      simp [results, Tryz.results146, go_sem, vlV, e0, e1, e2]
    · rw [if_neg (by decide), if_neg (by decide), if_neg (by decide)] at h2
      have HV : Hid (valueP T i = .ok ⟨0, 0, []⟩ j) := h2
      obtain ⟨⟨c0, c1, c2⟩, f0, f1, f2⟩ := three k2
      have kz := three_put k2 (.int .i64 0) (.int .i64 0) (.string ⟨#[]⟩)
      have sz := ((s2.put hfr 0 (.int .i64 0)).put hfr 1 (.int .i64 0)).put hfr 2 (.string ⟨#[]⟩)
      have gz := grown_put (grown_put (grown_put g2 (Nat.le_refl _) 0 (.int .i64 0)) (Nat.le_refl _) 1 (.int .i64 0)) (Nat.le_refl _) 2 (.string ⟨#[]⟩)
      clear h2 k2 s2 g2
      go_wp2_with fail
      generalize ((w2.setCell ⟨w.heap.size, 0, none⟩ (.int .i64 0)).setCell ⟨w.heap.size, 1, none⟩ (.int .i64 0)).setCell ⟨w.heap.size, 2, none⟩ (.string ⟨#[]⟩) = wz at *
      obtain ⟨⟨e0, e1, e2⟩, -⟩ := three kz
      refine bodyPost_ret (v := vlV ⟨0, 0, []⟩) ?_ rfl (.mkOk gz HV.out rfl sz)
      simp [results, Tryz.results146, go_sem, vlV, e0, e1, e2]

theorem value_any {w : World} {base pb : Nat} {v : Value} {T : List Tk} {en : Int} {i : Nat} (h : St w base pb v T en i) :
    Calls Tryz.prog 146 #[.pointer (some ⟨pb, 0, none⟩)] w fun e w' => Out w base pb v T en repV (valueP T i) e w' := by
  by_cases h2 : kd T i = 2
  · exact value_num h h2
  by_cases h3 : kd T i = 3
  · exact value_txt h h3
  · exact value_sign h h2 h3

end Go.Proofs.YtkpeklealgicpabGreatDoor

namespace Go.Proofs.YtkpeklealgicpabGreatDoor
open Go.RowKit

/-- an expression's value: its Args are a slice -/
def exV (k : Int) (x : Vl) (nm : List UInt8) (a : Value) : Value := .agg #[.int .i64 k, .int .i64 x.k, .int .i64 x.n, .string ⟨x.s.toArray⟩, .string ⟨nm.toArray⟩, a]

/-- such a value spread over six cells -/
def Six (w : World) (b o : Nat) (u : Value) : Prop :=
  ∃ k x nm a, u = exV k x nm a ∧ w.cell? ⟨b, o, none⟩ = some (.int .i64 k) ∧ w.cell? ⟨b, o + 1, none⟩ = some (.int .i64 x.k) ∧ w.cell? ⟨b, o + 2, none⟩ = some (.int .i64 x.n) ∧
    w.cell? ⟨b, o + 3, none⟩ = some (.string ⟨x.s.toArray⟩) ∧ w.cell? ⟨b, o + 4, none⟩ = some (.string ⟨nm.toArray⟩) ∧ w.cell? ⟨b, o + 5, none⟩ = some a

/-- an expression in memory, all its Args in blocks from B on -/
inductive ExAt (B : Nat) (w : World) : Value → Ex → Prop where
  | nil (k : Int) (x : Vl) (nm : List UInt8) (ao : Option Addr) (cap : Nat) (hz : ao = none → cap = 0) : ExAt B w (exV k x nm (.slice ao 0 cap)) (.mk k x nm [])
  | args (k : Int) (x : Vl) (nm : List UInt8) (b off cap : Nat) (xs : List Ex) (us : Nat → Value) (hx : xs ≠ []) (hB : B ≤ b) (hs : b < w.heap.size) (hc : ∀ i, i < xs.length → Six w b (off + 6 * i) (us i))
      (h : ∀ i y, xs[i]? = some y → ExAt B w (us i) y) : ExAt B w (exV k x nm (.slice (some ⟨b, off, none⟩) xs.length cap)) (.mk k x nm xs)

theorem Six.keep {w w' : World} {b o : Nat} {u : Value} (h : Six w b o u) (hk : w'.heap[b]? = w.heap[b]?) : Six w' b o u := by
  obtain ⟨k, x, nm, a, rfl, h0, h1, h2, h3, h4, h5⟩ := h
  have e : ∀ o, w'.cell? ⟨b, o, none⟩ = w.cell? ⟨b, o, none⟩ := fun o => World.cell?_of_block (w := w) hk
  exact ⟨k, x, nm, a, rfl, (e _).trans h0, (e _).trans h1, (e _).trans h2, (e _).trans h3, (e _).trans h4, (e _).trans h5⟩

theorem ExAt.keep {B : Nat} {w w' : World} {u : Value} {x : Ex} (h : ExAt B w u x) (hs : w.heap.size ≤ w'.heap.size) (hk : ∀ b, B ≤ b → b < w.heap.size → w'.heap[b]? = w.heap[b]?) : ExAt B w' u x := by
  induction h with
  | nil k x nm ao cap hz => exact .nil k x nm ao cap hz
  | args k x nm b off cap xs us hx hB hsz hc _ ih =>
    exact .args k x nm b off cap xs us hx hB (Nat.lt_of_lt_of_le hsz hs) (fun i hi => (hc i hi).keep (hk b hB hsz)) ih

theorem ExAt.grown {B pb : Nat} {w w' : World} {u : Value} {x : Ex} (h : ExAt B w u x) (hp : pb < B) (hg : w.grownBy w' (some pb)) : ExAt B w' u x :=
  h.keep hg.size fun b hB hs => hg.block b hs (by simp only [ne_eq, Option.some.injEq]; omega)
theorem ExAt.put {B : Nat} {w : World} {u : Value} {x : Ex} (h : ExAt B w u x) {b : Nat} (hb : b < B) (o : Nat) (y : Value) : ExAt B (w.setCell ⟨b, o, none⟩ y) u x :=
  h.keep (by simp [World.setCell]) fun c hc _ => heap_setCell_other w _ c y (by simp only; omega)
theorem ExAt.alloc {B : Nat} {w : World} {u : Value} {x : Ex} (h : ExAt B w u x) (o : Obj) : ExAt B (w.alloc o) u x :=
  h.keep (by simp) fun b _ hs => ((Below.refl w.heap.size w).alloc (Nat.le_refl _) o).block b hs
theorem ExAt.under {B : Nat} {w w' : World} {u : Value} {x : Ex} (h : ExAt B w u x) (hb : Below w.heap.size w w') : ExAt B w' u x :=
  h.keep hb.size fun b _ hs => hb.block b hs
theorem ExAt.weak {B B' : Nat} {w : World} {u : Value} {x : Ex} (h : ExAt B w u x) (hB : B' ≤ B) : ExAt B' w u x := by
  induction h with
  | nil k x nm ao cap hz => exact .nil k x nm ao cap hz
  | args k x nm b off cap xs us hx hb hsz hc _ ih => exact .args k x nm b off cap xs us hx (Nat.le_trans hB hb) hsz hc ih
theorem ExAt.form {B : Nat} {w : World} {u : Value} {x : Ex} (h : ExAt B w u x) : ∃ k y nm ao n cap, u = exV k y nm (.slice ao n cap) := by
  cases h with
  | nil k x nm ao cap _ => exact ⟨_, _, _, _, _, _, rfl⟩
  | args k x nm b off cap xs us => exact ⟨_, _, _, _, _, _, rfl⟩

def repE (B : Nat) (w : World) (u : Value) (x : Ex) : Prop := ExAt B w u x

theorem six_of {w : World} {b : Nat} {t : TypeId} {cs : Array Value} (h : w.heap[b]? = some (.cells cs t)) (o : Nat) (k : Int) (x : Vl) (nm : List UInt8) (a : Value)
    (h0 : cs[o]? = some (.int .i64 k)) (h1 : cs[o + 1]? = some (.int .i64 x.k)) (h2 : cs[o + 2]? = some (.int .i64 x.n)) (h3 : cs[o + 3]? = some (.string ⟨x.s.toArray⟩)) (h4 : cs[o + 4]? = some (.string ⟨nm.toArray⟩)) (h5 : cs[o + 5]? = some a) : Six w b o (exV k x nm a) :=
  ⟨k, x, nm, a, rfl, (Lib.cell_of_heap h _).trans h0, (Lib.cell_of_heap h _).trans h1, (Lib.cell_of_heap h _).trans h2, (Lib.cell_of_heap h _).trans h3, (Lib.cell_of_heap h _).trans h4, (Lib.cell_of_heap h _).trans h5⟩

/-- one expression in a new block -/
theorem ex_one {B : Nat} {w : World} {b : Nat} {t : TypeId} {k : Int} {x : Vl} {nm : List UInt8} {a : Value} {y : Ex} (hk : w.heap[b]? = some (.cells #[.int .i64 k, .int .i64 x.k, .int .i64 x.n, .string ⟨x.s.toArray⟩, .string ⟨nm.toArray⟩, a] t)) (hB : B ≤ b) (h : ExAt B w (exV k x nm a) y) (K : Int) (cap : Nat) :
    ExAt B w (exV K vl0 [] (.slice (some ⟨b, 0, none⟩) 1 cap)) (.mk K vl0 [] [y]) := by
  refine .args K vl0 [] b 0 cap [y] (fun _ => exV k x nm a) (by simp) hB (Array.getElem?_eq_some_iff.1 hk).1 ?_ ?_
  · intro i hi
    have : i = 0 := by simpa using hi
    subst this
    exact six_of hk 0 k x nm a rfl rfl rfl rfl rfl rfl
  · intro i z hz
    match i, hz with
    | 0, hz => simp only [List.getElem?_cons_zero, Option.some.injEq] at hz; subst hz; exact h

theorem ex_two {B : Nat} {w : World} {b : Nat} {t : TypeId} {k k' : Int} {x x' : Vl} {nm nm' : List UInt8} {a a' : Value} {y y' : Ex} (hk : w.heap[b]? = some (.cells #[.int .i64 k, .int .i64 x.k, .int .i64 x.n, .string ⟨x.s.toArray⟩, .string ⟨nm.toArray⟩, a, .int .i64 k', .int .i64 x'.k, .int .i64 x'.n, .string ⟨x'.s.toArray⟩, .string ⟨nm'.toArray⟩, a'] t)) (hB : B ≤ b)
    (h : ExAt B w (exV k x nm a) y) (h' : ExAt B w (exV k' x' nm' a') y') (K : Int) (cap : Nat) :
    ExAt B w (exV K vl0 [] (.slice (some ⟨b, 0, none⟩) 2 cap)) (.mk K vl0 [] [y, y']) := by
  refine .args K vl0 [] b 0 cap [y, y'] (fun i => if i = 0 then exV k x nm a else exV k' x' nm' a') (by simp) hB (Array.getElem?_eq_some_iff.1 hk).1 ?_ ?_
  · intro i hi
    match i, hi with
    | 0, _ => exact six_of hk 0 k x nm a rfl rfl rfl rfl rfl rfl
    | 1, _ => exact six_of hk 6 k' x' nm' a' rfl rfl rfl rfl rfl rfl
  · intro i z hz
    match i, hz with
    | 0, hz => simp only [List.getElem?_cons_zero, Option.some.injEq] at hz; subst hz; exact h
    | 1, hz => simp only [List.getElem?_cons_succ, List.getElem?_cons_zero, Option.some.injEq] at hz; subst hz; exact h'

theorem six {W : World} {b : Nat} {x0 x1 x2 x3 x4 x5 : Value} {t : TypeId} (h : W.heap[b]? = some (.cells #[x0, x1, x2, x3, x4, x5] t)) :
    (W.cell? ⟨b, 0, none⟩ = some x0 ∧ W.cell? ⟨b, 1, none⟩ = some x1 ∧ W.cell? ⟨b, 2, none⟩ = some x2 ∧ W.cell? ⟨b, 3, none⟩ = some x3 ∧ W.cell? ⟨b, 4, none⟩ = some x4 ∧ W.cell? ⟨b, 5, none⟩ = some x5) ∧
    (W.frozen? ⟨b, 0, none⟩ = false ∧ W.frozen? ⟨b, 1, none⟩ = false ∧ W.frozen? ⟨b, 2, none⟩ = false ∧ W.frozen? ⟨b, 3, none⟩ = false ∧ W.frozen? ⟨b, 4, none⟩ = false ∧ W.frozen? ⟨b, 5, none⟩ = false) := by
  refine ⟨⟨?_, ?_, ?_, ?_, ?_, ?_⟩, Lib.frozen_of_heap h 0, Lib.frozen_of_heap h 1, Lib.frozen_of_heap h 2, Lib.frozen_of_heap h 3, Lib.frozen_of_heap h 4, Lib.frozen_of_heap h 5⟩
  all_goals (rw [Lib.cell_of_heap h]; rfl)
/-- six cells, one behind the other -/
def put6 (W : World) (b : Nat) (y0 y1 y2 y3 y4 y5 : Value) : World :=
  (((((W.setCell ⟨b, 0, none⟩ y0).setCell ⟨b, 1, none⟩ y1).setCell ⟨b, 2, none⟩ y2).setCell ⟨b, 3, none⟩ y3).setCell ⟨b, 4, none⟩ y4).setCell ⟨b, 5, none⟩ y5
theorem put6_size (W : World) (b : Nat) (y0 y1 y2 y3 y4 y5 : Value) : (put6 W b y0 y1 y2 y3 y4 y5).heap.size = W.heap.size := by simp [put6, World.setCell]
theorem six_put {W : World} {b : Nat} {x0 x1 x2 x3 x4 x5 : Value} {t : TypeId} (h : W.heap[b]? = some (.cells #[x0, x1, x2, x3, x4, x5] t)) (y0 y1 y2 y3 y4 y5 : Value) :
    (put6 W b y0 y1 y2 y3 y4 y5).heap[b]? = some (.cells #[y0, y1, y2, y3, y4, y5] t) :=
  heap_setCell_same _ b 5 _ t y5 (heap_setCell_same _ b 4 _ t y4 (heap_setCell_same _ b 3 _ t y3 (heap_setCell_same _ b 2 _ t y2 (heap_setCell_same _ b 1 _ t y1 (heap_setCell_same W b 0 _ t y0 h)))))
theorem St.put6 {w : World} {base pb : Nat} {v : Value} {T : List Tk} {en : Int} {i : Nat} (h : St w base pb v T en i) {b : Nat} (hb : b ≠ pb ∧ v.ownBlock ≠ some b ∧ 6 ≤ b) (y0 y1 y2 y3 y4 y5 : Value) : St (put6 w b y0 y1 y2 y3 y4 y5) base pb v T en i :=
  (((((h.put hb 0 y0).put hb 1 y1).put hb 2 y2).put hb 3 y3).put hb 4 y4).put hb 5 y5
theorem grown_put6 {w w' : World} {r : Option Nat} (h : w.grownBy w' r) {b : Nat} (hb : w.heap.size ≤ b) (y0 y1 y2 y3 y4 y5 : Value) : w.grownBy (put6 w' b y0 y1 y2 y3 y4 y5) r :=
  grown_put (grown_put (grown_put (grown_put (grown_put (grown_put h hb 0 y0) hb 1 y1) hb 2 y2) hb 3 y3) hb 4 y4) hb 5 y5

theorem ExAt.put6 {B : Nat} {w : World} {u : Value} {x : Ex} (h : ExAt B w u x) {b : Nat} (hb : b < B) (y0 y1 y2 y3 y4 y5 : Value) : ExAt B (put6 w b y0 y1 y2 y3 y4 y5) u x :=
  (((((h.put hb 0 y0).put hb 1 y1).put hb 2 y2).put hb 3 y3).put hb 4 y4).put hb 5 y5

end Go.Proofs.YtkpeklealgicpabGreatDoor

namespace Go.Proofs.YtkpeklealgicpabGreatDoor
open Go.RowKit

set_option maxRecDepth 100000 in
set_option maxHeartbeats 1600000 in
theorem expr_zero {w : World} {base pb : Nat} {v : Value} {T : List Tk} {en : Int} {i : Nat} (h : St w base pb v T en i) :
    Calls Tryz.prog 150 #[.pointer (some ⟨pb, 0, none⟩), .int .i64 60] w fun e w' => Out w base pb v T en (repE w.heap.size) (exprP T 0 i) e w' := by
  have hfr := h.fresh (Nat.le_refl _)
  have s0 := h.alloc (.cells #[.int .i64 0, .int .i64 0, .int .i64 0, .string ⟨#[]⟩, .string ⟨#[]⟩, .slice none 0 0] 29)
  have g0 := grown_alloc (grown_refl w (some pb)) (.cells #[.int .i64 0, .int .i64 0, .int .i64 0, .string ⟨#[]⟩, .string ⟨#[]⟩, .slice none 0 0] 29)
  have k0 : (w.alloc (.cells #[.int .i64 0, .int .i64 0, .int .i64 0, .string ⟨#[]⟩, .string ⟨#[]⟩, .slice none 0 0] 29)).heap[w.heap.size]? = some (.cells #[.int .i64 0, .int .i64 0, .int .i64 0, .string ⟨#[]⟩, .string ⟨#[]⟩, .slice none 0 0] 29) := heap_alloc_new _ _
  have t2 := tokf2
  have HR : Hid (exprP T 0 i = leafP T i) := rfl
  go_enter Tryz.func150, Tryz.ntmps150
  go_wp2_with fail
  refine (here_any s0).mono ?_
  rintro e wb ⟨rfl, bb⟩
  have sb := s0.below bb
  have kb := (bb.block w.heap.size (Array.getElem?_eq_some_iff.1 k0).1).trans k0
  have gb := grown_trans g0 (grown_below bb _)
  have hsz := sb.short
  clear k0 s0 g0 bb
  go_wp2_with fail
  refine (isName_any _ _ (by rw [size_mk]; omega) sb.gl).mono ?_
  rintro e wc ⟨rfl, bc⟩
  have sc := sb.below bc
  have kc := (bc.block w.heap.size (Array.getElem?_eq_some_iff.1 kb).1).trans kb
  have gc := grown_trans gb (grown_below bc _)
  clear kb sb gb bc
  cases hnm : nameW (tx T i)
  · skip
    go_wp2_with fail
    refine (value_any sc).mono ?_
    intro e wd od
    have gd := grown_trans gc od.grown
    cases hv : valueP T i with
    | bad j =>
      obtain rfl := od.bad j hv
      exact ⟨rfl, .mkBad gd (by rw [HR.out, leafP, if_neg (by simp [hnm]), hv]; rfl)⟩
    | ok x j =>
      obtain ⟨u, rfl, hu, sd⟩ := od.ok x j hv
      cases hu
      have kd_ := (od.grown.block w.heap.size (Array.getElem?_eq_some_iff.1 kc).1 (by simpa using hfr.1)).trans kc
      have HL : Hid (exprP T 0 i = .ok (.mk 1 x [] []) j) := by show _ = _; rw [HR.out, leafP, if_neg (by simp [hnm]), hv]; rfl
      clear kc sc gc
      simp only [vlV]
      obtain ⟨⟨c0, c1, c2, c3, c4, c5⟩, f0, f1, f2, f3, f4, f5⟩ := six kd_
      have kz := six_put kd_ (.int .i64 1) (.int .i64 x.k) (.int .i64 x.n) (.string ⟨x.s.toArray⟩) (.string ⟨#[]⟩) (.slice none 0 0)
      have sz := sd.put6 hfr (.int .i64 1) (.int .i64 x.k) (.int .i64 x.n) (.string ⟨x.s.toArray⟩) (.string ⟨#[]⟩) (.slice none 0 0)
      have gz := grown_put6 gd (Nat.le_refl _) (.int .i64 1) (.int .i64 x.k) (.int .i64 x.n) (.string ⟨x.s.toArray⟩) (.string ⟨#[]⟩) (.slice none 0 0)
      have hx : repE w.heap.size (put6 wd w.heap.size (.int .i64 1) (.int .i64 x.k) (.int .i64 x.n) (.string ⟨x.s.toArray⟩) (.string ⟨#[]⟩) (.slice none 0 0)) (exV 1 x [] (.slice none 0 0)) (.mk 1 x [] []) := .nil _ _ _ _ _ (fun _ => rfl)
      clear kd_ sd gd od hv hnm HR
      go_wp2_with fail
      change bodyPost Tryz.prog Tryz.f150 _ _ _ (put6 wd w.heap.size (.int .i64 1) (.int .i64 x.k) (.int .i64 x.n) (.string ⟨x.s.toArray⟩) (.string ⟨#[]⟩) (.slice none 0 0))
      generalize put6 wd w.heap.size (.int .i64 1) (.int .i64 x.k) (.int .i64 x.n) (.string ⟨x.s.toArray⟩) (.string ⟨#[]⟩) (.slice none 0 0) = wz at *
      obtain ⟨⟨e0, e1, e2, e3, e4, e5⟩, -⟩ := six kz
      refine bodyPost_ret (v := exV 1 x [] (.slice none 0 0)) ?_ rfl (.mkOk gz HL.out hx sz)
      simp [results, Tryz.results150, go_sem, exV, e0, e1, e2, e3, e4, e5]

  · skip
    go_wp2_with fail
    refine (name_any sc).mono ?_
    intro e wd od
    have gd := grown_trans gc od.grown
    have hn : nameP T i = .ok (tx T i) (i + 1) := by rw [nameP, if_pos hnm]
    obtain ⟨u, rfl, hu, sd⟩ := od.ok _ _ hn
    cases hu
    have kd_ := (od.grown.block w.heap.size (Array.getElem?_eq_some_iff.1 kc).1 (by simpa using hfr.1)).trans kc
    have HL : Hid (exprP T 0 i = .ok (.mk 2 vl0 (tx T i) []) (i + 1)) := by show _ = _; rw [HR.out, leafP, if_pos hnm]
    clear kc sc gc hn
    obtain ⟨⟨c0, c1, c2, c3, c4, c5⟩, f0, f1, f2, f3, f4, f5⟩ := six kd_
    have kz := six_put kd_ (.int .i64 2) (.int .i64 0) (.int .i64 0) (.string ⟨#[]⟩) (.string ⟨(tx T i).toArray⟩) (.slice none 0 0)
    have sz := sd.put6 hfr (.int .i64 2) (.int .i64 0) (.int .i64 0) (.string ⟨#[]⟩) (.string ⟨(tx T i).toArray⟩) (.slice none 0 0)
    have gz := grown_put6 gd (Nat.le_refl _) (.int .i64 2) (.int .i64 0) (.int .i64 0) (.string ⟨#[]⟩) (.string ⟨(tx T i).toArray⟩) (.slice none 0 0)
    have hx : repE w.heap.size (put6 wd w.heap.size (.int .i64 2) (.int .i64 0) (.int .i64 0) (.string ⟨#[]⟩) (.string ⟨(tx T i).toArray⟩) (.slice none 0 0)) (exV 2 vl0 (tx T i) (.slice none 0 0)) (.mk 2 vl0 (tx T i) []) := .nil _ _ _ _ _ (fun _ => rfl)
    clear kd_ sd gd od hnm HR
    go_wp2_with fail
    change bodyPost Tryz.prog Tryz.f150 _ _ _ (put6 wd w.heap.size (.int .i64 2) (.int .i64 0) (.int .i64 0) (.string ⟨#[]⟩) (.string ⟨(tx T i).toArray⟩) (.slice none 0 0))
    generalize put6 wd w.heap.size (.int .i64 2) (.int .i64 0) (.int .i64 0) (.string ⟨#[]⟩) (.string ⟨(tx T i).toArray⟩) (.slice none 0 0) = wz at *
    obtain ⟨⟨e0, e1, e2, e3, e4, e5⟩, -⟩ := six kz
    refine bodyPost_ret (v := exV 2 vl0 (tx T i) (.slice none 0 0)) ?_ rfl (.mkOk gz HL.out hx sz)
    simp [results, Tryz.results150, go_sem, exV, vl0, e0, e1, e2, e3, e4, e5]

set_option maxRecDepth 100000 in
set_option maxHeartbeats 1600000 in
theorem expr_leaf {w : World} {base pb : Nat} {v : Value} {T : List Tk} {en : Int} {i : Nat} (h : St w base pb v T en i) (f : Nat) (hf : f < 60) (hn1 : tx T i ≠ w_not) (hn2 : tx T i ≠ [40]) :
    Calls Tryz.prog 150 #[.pointer (some ⟨pb, 0, none⟩), .int .i64 ((59 - f : Nat) : Int)] w fun e w' => Out w base pb v T en (repE w.heap.size) (exprP T (f + 1) i) e w' := by
  have hfr := h.fresh (Nat.le_refl _)
  have s0 := h.alloc (.cells #[.int .i64 0, .int .i64 0, .int .i64 0, .string ⟨#[]⟩, .string ⟨#[]⟩, .slice none 0 0] 29)
  have g0 := grown_alloc (grown_refl w (some pb)) (.cells #[.int .i64 0, .int .i64 0, .int .i64 0, .string ⟨#[]⟩, .string ⟨#[]⟩, .slice none 0 0] 29)
  have k0 : (w.alloc (.cells #[.int .i64 0, .int .i64 0, .int .i64 0, .string ⟨#[]⟩, .string ⟨#[]⟩, .slice none 0 0] 29)).heap[w.heap.size]? = some (.cells #[.int .i64 0, .int .i64 0, .int .i64 0, .string ⟨#[]⟩, .string ⟨#[]⟩, .slice none 0 0] 29) := heap_alloc_new _ _
  have t2 := tokf2
  have HR : Hid (exprP T (f + 1) i = leafP T i) := by show _ = _; rw [exprP, if_neg hn1, if_neg hn2]
  have hm : ((59 - f : Nat) : Int) < 60 := by omega
  have hl : 59 - f < 60 := by omega
  generalize ((59 - f : Nat) : Int) = m at hm ⊢
  have m1 := may_nil s0 w_not (by decide)
  simp only [hn1, if_false, decide_false] at m1
  go_enter Tryz.func150, Tryz.ntmps150
  go_wp2_with fail
  refine m1.mono ?_
  rintro e w1 ⟨rfl, g1', s1⟩
  have k1 := (g1'.block w.heap.size (Array.getElem?_eq_some_iff.1 k0).1 (by simpa using hfr.1)).trans k0
  have g1 := grown_trans g0 g1'
  have m2 := may_nil s1 [40] (by decide)
  simp only [hn2, if_false, decide_false] at m2
  clear m1 g1' k0 s0 g0
  go_wp2_with fail
  refine m2.mono ?_
  rintro e w2 ⟨rfl, g2', s2⟩
  have k2 := (g2'.block w.heap.size (Array.getElem?_eq_some_iff.1 k1).1 (by simpa using hfr.1)).trans k1
  have g2 := grown_trans g1 g2'
  clear m2 g2' k1 s1 g1 hn1 hn2 hl
  go_wp2_with fail
  refine (here_any s2).mono ?_
  rintro e wb ⟨rfl, bb⟩
  have sb := s2.below bb
  have kb := (bb.block w.heap.size (Array.getElem?_eq_some_iff.1 k2).1).trans k2
  have gb := grown_trans g2 (grown_below bb _)
  have hsz := sb.short
  clear k2 s2 g2 bb
  go_wp2_with fail
  refine (isName_any _ _ (by rw [size_mk]; omega) sb.gl).mono ?_
  rintro e wc ⟨rfl, bc⟩
  have sc := sb.below bc
  have kc := (bc.block w.heap.size (Array.getElem?_eq_some_iff.1 kb).1).trans kb
  have gc := grown_trans gb (grown_below bc _)
  clear kb sb gb bc
  cases hnm : nameW (tx T i)
  · skip
    go_wp2_with fail
    refine (value_any sc).mono ?_
    intro e wd od
    have gd := grown_trans gc od.grown
    cases hv : valueP T i with
    | bad j =>
      obtain rfl := od.bad j hv
      exact ⟨rfl, .mkBad gd (by rw [HR.out, leafP, if_neg (by simp [hnm]), hv]; rfl)⟩
    | ok x j =>
      obtain ⟨u, rfl, hu, sd⟩ := od.ok x j hv
      cases hu
      have kd_ := (od.grown.block w.heap.size (Array.getElem?_eq_some_iff.1 kc).1 (by simpa using hfr.1)).trans kc
      have HL : Hid (exprP T (f + 1) i = .ok (.mk 1 x [] []) j) := by show _ = _; rw [HR.out, leafP, if_neg (by simp [hnm]), hv]; rfl
      clear kc sc gc
      simp only [vlV]
      obtain ⟨⟨c0, c1, c2, c3, c4, c5⟩, f0, f1, f2, f3, f4, f5⟩ := six kd_
      have kz := six_put kd_ (.int .i64 1) (.int .i64 x.k) (.int .i64 x.n) (.string ⟨x.s.toArray⟩) (.string ⟨#[]⟩) (.slice none 0 0)
      have sz := sd.put6 hfr (.int .i64 1) (.int .i64 x.k) (.int .i64 x.n) (.string ⟨x.s.toArray⟩) (.string ⟨#[]⟩) (.slice none 0 0)
      have gz := grown_put6 gd (Nat.le_refl _) (.int .i64 1) (.int .i64 x.k) (.int .i64 x.n) (.string ⟨x.s.toArray⟩) (.string ⟨#[]⟩) (.slice none 0 0)
      have hx : repE w.heap.size (put6 wd w.heap.size (.int .i64 1) (.int .i64 x.k) (.int .i64 x.n) (.string ⟨x.s.toArray⟩) (.string ⟨#[]⟩) (.slice none 0 0)) (exV 1 x [] (.slice none 0 0)) (.mk 1 x [] []) := .nil _ _ _ _ _ (fun _ => rfl)
      clear kd_ sd gd od hv hnm HR
      go_wp2_with fail
      change bodyPost Tryz.prog Tryz.f150 _ _ _ (put6 wd w.heap.size (.int .i64 1) (.int .i64 x.k) (.int .i64 x.n) (.string ⟨x.s.toArray⟩) (.string ⟨#[]⟩) (.slice none 0 0))
      generalize put6 wd w.heap.size (.int .i64 1) (.int .i64 x.k) (.int .i64 x.n) (.string ⟨x.s.toArray⟩) (.string ⟨#[]⟩) (.slice none 0 0) = wz at *
      obtain ⟨⟨e0, e1, e2, e3, e4, e5⟩, -⟩ := six kz
      refine bodyPost_ret (v := exV 1 x [] (.slice none 0 0)) ?_ rfl (.mkOk gz HL.out hx sz)
      simp [results, Tryz.results150, go_sem, exV, e0, e1, e2, e3, e4, e5]

  · skip
    go_wp2_with fail
    refine (name_any sc).mono ?_
    intro e wd od
    have gd := grown_trans gc od.grown
    have hn : nameP T i = .ok (tx T i) (i + 1) := by rw [nameP, if_pos hnm]
    obtain ⟨u, rfl, hu, sd⟩ := od.ok _ _ hn
    cases hu
    have kd_ := (od.grown.block w.heap.size (Array.getElem?_eq_some_iff.1 kc).1 (by simpa using hfr.1)).trans kc
    have HL : Hid (exprP T (f + 1) i = .ok (.mk 2 vl0 (tx T i) []) (i + 1)) := by show _ = _; rw [HR.out, leafP, if_pos hnm]
    clear kc sc gc hn
    obtain ⟨⟨c0, c1, c2, c3, c4, c5⟩, f0, f1, f2, f3, f4, f5⟩ := six kd_
    have kz := six_put kd_ (.int .i64 2) (.int .i64 0) (.int .i64 0) (.string ⟨#[]⟩) (.string ⟨(tx T i).toArray⟩) (.slice none 0 0)
    have sz := sd.put6 hfr (.int .i64 2) (.int .i64 0) (.int .i64 0) (.string ⟨#[]⟩) (.string ⟨(tx T i).toArray⟩) (.slice none 0 0)
    have gz := grown_put6 gd (Nat.le_refl _) (.int .i64 2) (.int .i64 0) (.int .i64 0) (.string ⟨#[]⟩) (.string ⟨(tx T i).toArray⟩) (.slice none 0 0)
    have hx : repE w.heap.size (put6 wd w.heap.size (.int .i64 2) (.int .i64 0) (.int .i64 0) (.string ⟨#[]⟩) (.string ⟨(tx T i).toArray⟩) (.slice none 0 0)) (exV 2 vl0 (tx T i) (.slice none 0 0)) (.mk 2 vl0 (tx T i) []) := .nil _ _ _ _ _ (fun _ => rfl)
    clear kd_ sd gd od hnm HR
    go_wp2_with fail
    change bodyPost Tryz.prog Tryz.f150 _ _ _ (put6 wd w.heap.size (.int .i64 2) (.int .i64 0) (.int .i64 0) (.string ⟨#[]⟩) (.string ⟨(tx T i).toArray⟩) (.slice none 0 0))
    generalize put6 wd w.heap.size (.int .i64 2) (.int .i64 0) (.int .i64 0) (.string ⟨#[]⟩) (.string ⟨(tx T i).toArray⟩) (.slice none 0 0) = wz at *
    obtain ⟨⟨e0, e1, e2, e3, e4, e5⟩, -⟩ := six kz
    refine bodyPost_ret (v := exV 2 vl0 (tx T i) (.slice none 0 0)) ?_ rfl (.mkOk gz HL.out hx sz)
    simp [results, Tryz.results150, go_sem, exV, vl0, e0, e1, e2, e3, e4, e5]

set_option maxRecDepth 100000 in
set_option maxHeartbeats 1600000 in
theorem expr_not {w : World} {base pb : Nat} {v : Value} {T : List Tk} {en : Int} {i : Nat} (h : St w base pb v T en i) (f : Nat) (hf : f < 60) (hn1 : tx T i = w_not)
    (ih : ∀ (W : World) (i : Nat), St W base pb v T en i → Calls Tryz.prog 150 #[.pointer (some ⟨pb, 0, none⟩), .int .i64 ((60 - f : Nat) : Int)] W fun e w' => Out W base pb v T en (repE W.heap.size) (exprP T f i) e w') :
    Calls Tryz.prog 150 #[.pointer (some ⟨pb, 0, none⟩), .int .i64 ((59 - f : Nat) : Int)] w fun e w' => Out w base pb v T en (repE w.heap.size) (exprP T (f + 1) i) e w' := by
  have hfr := h.fresh (Nat.le_refl _)
  have s0 := h.alloc (.cells #[.int .i64 0, .int .i64 0, .int .i64 0, .string ⟨#[]⟩, .string ⟨#[]⟩, .slice none 0 0] 29)
  have g0 := grown_alloc (grown_refl w (some pb)) (.cells #[.int .i64 0, .int .i64 0, .int .i64 0, .string ⟨#[]⟩, .string ⟨#[]⟩, .slice none 0 0] 29)
  have k0 : (w.alloc (.cells #[.int .i64 0, .int .i64 0, .int .i64 0, .string ⟨#[]⟩, .string ⟨#[]⟩, .slice none 0 0] 29)).heap[w.heap.size]? = some (.cells #[.int .i64 0, .int .i64 0, .int .i64 0, .string ⟨#[]⟩, .string ⟨#[]⟩, .slice none 0 0] 29) := heap_alloc_new _ _
  have t2 := tokf2
  have HR : Hid (exprP T (f + 1) i = (exprP T f (i + 1)).then fun a j => .ok (.mk 3 vl0 [] [a]) j) := by show _ = _; rw [exprP, if_pos hn1]
  have hm : ((59 - f : Nat) : Int) < 60 := by omega
  have hm0 : 0 ≤ ((59 - f : Nat) : Int) := by omega
  have hm1 : ((60 - f : Nat) : Int) = ((59 - f : Nat) : Int) + 1 := by omega
  rw [hm1] at ih
  generalize ((59 - f : Nat) : Int) = m at hm hm0 ih ⊢
  have m1 := may_nil s0 w_not (by decide)
  simp only [hn1, if_true, decide_true] at m1
  clear hm1 hn1 hf
  go_enter Tryz.func150, Tryz.ntmps150
  go_wp2_with fail
  refine m1.mono ?_
  rintro e wb ⟨rfl, gb', sb⟩
  have kb := (gb'.block w.heap.size (Array.getElem?_eq_some_iff.1 k0).1 (by simpa using hfr.1)).trans k0
  have gb := grown_trans g0 gb'
  have hwb := (Array.getElem?_eq_some_iff.1 kb).1
  clear m1 gb' k0 s0 g0
  go_wp2_with fail
  refine (ih _ _ sb).mono ?_
  intro e wc oc
  have gc := grown_trans gb oc.grown
  have gc2 := oc.grown
  cases hy : exprP T f (i + 1) with
  | bad j =>
    obtain rfl := oc.bad j hy
    exact ⟨rfl, .mkBad gc (by rw [HR.out, hy]; rfl)⟩
  | ok y j =>
    obtain ⟨u, rfl, xc, sc⟩ := oc.ok y j hy
    obtain ⟨k, x, nm, ao, na, ca, rfl⟩ := ExAt.form xc
    have kc := (gc2.block w.heap.size hwb (by simpa using hfr.1)).trans kb
    have HL : Hid (exprP T (f + 1) i = .ok (.mk 3 vl0 [] [y]) j) := by show _ = _; rw [HR.out, hy]; rfl
    have xc : ExAt wb.heap.size wc (exV k x nm (.slice ao na ca)) y := xc
    clear kb sb HR ih
    rw [exV]
    obtain ⟨⟨c0, c1, c2, c3, c4, c5⟩, f0, f1, f2, f3, f4, f5⟩ := six kc
    have kz := six_put kc (.int .i64 3) (.int .i64 0) (.int .i64 0) (.string ⟨#[]⟩) (.string ⟨#[]⟩) (.slice (some ⟨wc.heap.size, 0, none⟩) 1 1)
    have sz := sc.put6 hfr (.int .i64 3) (.int .i64 0) (.int .i64 0) (.string ⟨#[]⟩) (.string ⟨#[]⟩) (.slice (some ⟨wc.heap.size, 0, none⟩) 1 1)
    have gz := grown_put6 gc (Nat.le_refl _) (.int .i64 3) (.int .i64 0) (.int .i64 0) (.string ⟨#[]⟩) (.string ⟨#[]⟩) (.slice (some ⟨wc.heap.size, 0, none⟩) 1 1)
    have hsz := put6_size wc w.heap.size (.int .i64 3) (.int .i64 0) (.int .i64 0) (.string ⟨#[]⟩) (.string ⟨#[]⟩) (.slice (some ⟨wc.heap.size, 0, none⟩) 1 1)
    have hrb := (Array.getElem?_eq_some_iff.1 kz).1
    have hrw := (Array.getElem?_eq_some_iff.1 kc).1
    have xcz := xc.put6 hwb (.int .i64 3) (.int .i64 0) (.int .i64 0) (.string ⟨#[]⟩) (.string ⟨#[]⟩) (.slice (some ⟨wc.heap.size, 0, none⟩) 1 1)
    clear oc hy
    go_wp2_with fail
    change bodyPost Tryz.prog Tryz.f150 _ _ _ ((put6 wc w.heap.size (.int .i64 3) (.int .i64 0) (.int .i64 0) (.string ⟨#[]⟩) (.string ⟨#[]⟩) (.slice (some ⟨wc.heap.size, 0, none⟩) 1 1)).alloc (.cells #[.int .i64 k, .int .i64 x.k, .int .i64 x.n, .string ⟨x.s.toArray⟩, .string ⟨nm.toArray⟩, .slice ao na ca] 29))
    generalize put6 wc w.heap.size (.int .i64 3) (.int .i64 0) (.int .i64 0) (.string ⟨#[]⟩) (.string ⟨#[]⟩) (.slice (some ⟨wc.heap.size, 0, none⟩) 1 1) = wz at *
    obtain ⟨⟨e0, e1, e2, e3, e4, e5⟩, -⟩ := six kz
    refine bodyPost_ret (v := exV 3 vl0 [] (.slice (some ⟨wc.heap.size, 0, none⟩) 1 1)) ?_ rfl (.mkOk (grown_alloc gz _) HL.out (by rw [← hsz]; exact (ex_one (heap_alloc_new wz _) (by rw [hsz]; exact gc2.size) (xcz.alloc _) 3 1).weak gb.size) (sz.alloc _))
    simp [results, Tryz.results150, go_sem, exV, vl0, e0, e1, e2, e3, e4, e5, hrb]

set_option maxRecDepth 100000 in
set_option maxHeartbeats 4000000 in
theorem bracket_any {w : World} {base pb : Nat} {v : Value} {T : List Tk} {en : Int} {i : Nat} (h : St w base pb v T en i) (m : Int) (f : Nat)
    (ih : ∀ (W : World) (i : Nat), St W base pb v T en i → Calls Tryz.prog 150 #[.pointer (some ⟨pb, 0, none⟩), .int .i64 m] W fun e w' => Out W base pb v T en (repE W.heap.size) (exprP T f i) e w') :
    Calls Tryz.prog 173 #[.pointer (some ⟨pb, 0, none⟩), .int .i64 m] w fun e w' => Out w base pb v T en (repE w.heap.size) (brackP T (exprP T f) i) e w' := by
  have hfr := h.fresh (Nat.le_refl _)
  have s0 := h.alloc (.cells #[.int .i64 0, .int .i64 0, .int .i64 0, .string ⟨#[]⟩, .string ⟨#[]⟩, .slice none 0 0] 29)
  have g0 := grown_alloc (grown_refl w (some pb)) (.cells #[.int .i64 0, .int .i64 0, .int .i64 0, .string ⟨#[]⟩, .string ⟨#[]⟩, .slice none 0 0] 29)
  have k0 : (w.alloc (.cells #[.int .i64 0, .int .i64 0, .int .i64 0, .string ⟨#[]⟩, .string ⟨#[]⟩, .slice none 0 0] 29)).heap[w.heap.size]? = some (.cells #[.int .i64 0, .int .i64 0, .int .i64 0, .string ⟨#[]⟩, .string ⟨#[]⟩, .slice none 0 0] 29) := heap_alloc_new _ _
  have hrB : w.heap.size < (w.alloc (.cells #[.int .i64 0, .int .i64 0, .int .i64 0, .string ⟨#[]⟩, .string ⟨#[]⟩, .slice none 0 0] 29)).heap.size := by simp
  have hBw : w.heap.size ≤ (w.alloc (.cells #[.int .i64 0, .int .i64 0, .int .i64 0, .string ⟨#[]⟩, .string ⟨#[]⟩, .slice none 0 0] 29)).heap.size := by simp
  have hpB : pb < (w.alloc (.cells #[.int .i64 0, .int .i64 0, .int .i64 0, .string ⟨#[]⟩, .string ⟨#[]⟩, .slice none 0 0] 29)).heap.size := by have := h.heapLt; simp; omega
  have ih0 := ih _ _ s0
  generalize hB1 : (w.alloc (.cells #[.int .i64 0, .int .i64 0, .int .i64 0, .string ⟨#[]⟩, .string ⟨#[]⟩, .slice none 0 0] 29)).heap.size = B1 at hrB hBw hpB
  go_enter Tryz.func173, Tryz.ntmps173
  go_wp2_with fail
  refine ih0.mono ?_
  intro e wa oa
  have ga := grown_trans g0 oa.grown
  have ga' := oa.grown
  cases hy : exprP T f i with
  | bad j =>
    obtain rfl := oa.bad j hy
    exact ⟨rfl, .mkBad ga (by rw [brackP, hy]; rfl)⟩
  | ok y j =>
    obtain ⟨u, rfl, xa, sa⟩ := oa.ok y j hy
    obtain ⟨k, x, nm, ao, na, ca, rfl⟩ := ExAt.form xa
    have xa : ExAt (w.alloc (.cells #[.int .i64 0, .int .i64 0, .int .i64 0, .string ⟨#[]⟩, .string ⟨#[]⟩, .slice none 0 0] 29)).heap.size wa (exV k x nm (.slice ao na ca)) y := xa
    rw [hB1] at xa
    have ka := (ga'.block _ (Array.getElem?_eq_some_iff.1 k0).1 (by simpa using hfr.1)).trans k0
    have hBa : B1 ≤ wa.heap.size := by rw [← hB1]; exact ga'.size
    have sa1 := sa.alloc (.cells #[.int .i64 k, .int .i64 x.k, .int .i64 x.n, .string ⟨x.s.toArray⟩, .string ⟨nm.toArray⟩, .slice ao na ca] 29)
    have ka1 := (((Below.refl wa.heap.size wa).alloc (Nat.le_refl _) (.cells #[.int .i64 k, .int .i64 x.k, .int .i64 x.n, .string ⟨x.s.toArray⟩, .string ⟨nm.toArray⟩, .slice ao na ca] 29)).block _ (Array.getElem?_eq_some_iff.1 ka).1).trans ka
    have ga1 := grown_alloc ga (.cells #[.int .i64 k, .int .i64 x.k, .int .i64 x.n, .string ⟨x.s.toArray⟩, .string ⟨nm.toArray⟩, .slice ao na ca] 29)
    have xa1 := xa.alloc (.cells #[.int .i64 k, .int .i64 x.k, .int .i64 x.n, .string ⟨x.s.toArray⟩, .string ⟨nm.toArray⟩, .slice ao na ca] 29)
    have k5 := heap_alloc_new wa (.cells #[.int .i64 k, .int .i64 x.k, .int .i64 x.n, .string ⟨x.s.toArray⟩, .string ⟨nm.toArray⟩, .slice ao na ca] 29)
    have h5 : wa.heap.size ≠ pb := (sa.fresh (Nat.le_refl _)).1
    have h56 : wa.heap.size ≠ w.heap.size := by have := (Array.getElem?_eq_some_iff.1 ka).1; omega
    have HY : Hid (exprP T f i = .ok y j) := hy
    clear oa ga' ka ga xa s0 k0 g0 ih0 hy
    rw [exV]
    go_wp2_with fail
    refine (may_new sa1 w_is (by decide) [w_null, [41]] 2 _ (by simp) _ (by rfl) (by rfl) (by decide) (by decide)).mono ?_
    intro e wb ob
    have gb := grown_trans ga1 ob.grown
    have kb := (ob.grown.block _ (Array.getElem?_eq_some_iff.1 ka1).1 (by simpa using hfr.1)).trans ka1
    have k5b := (ob.grown.block _ (Array.getElem?_eq_some_iff.1 k5).1 (by simpa using h5)).trans k5
    have xb := xa1.grown hpB ob.grown
    have hB1b : B1 ≤ wb.heap.size := by have := ob.grown.size; simp at this; omega
    cases hb0 : may T w_is [w_null, [41]] j with
    | bad j2 =>
      obtain rfl := ob.bad j2 hb0
      exact ⟨rfl, .mkBad gb (by rw [brackP, HY.out, Rs.then_ok, hb0]; rfl)⟩
    | ok t j2 =>
      obtain ⟨u, rfl, hu, sb⟩ := ob.ok t j2 hb0
      cases hu
      obtain ⟨⟨p0, p1, p2, p3, p4, p5⟩, -⟩ := six k5b
      clear sa1 ka1 ga1 xa1 k5 sa
      cases t with
      | true =>
        have HL : Hid (brackP T (exprP T f) i = .ok (.mk 4 vl0 [] [y]) j2) := by show _ = _; rw [brackP, HY.out, Rs.then_ok, hb0]; rfl
        clear HY ih
        obtain ⟨⟨c0, c1, c2, c3, c4, c5⟩, f0, f1, f2, f3, f4, f5⟩ := six kb
        have kz := six_put kb (.int .i64 4) (.int .i64 0) (.int .i64 0) (.string ⟨#[]⟩) (.string ⟨#[]⟩) (.slice (some ⟨wb.heap.size, 0, none⟩) 1 1)
        have sz := sb.put6 hfr (.int .i64 4) (.int .i64 0) (.int .i64 0) (.string ⟨#[]⟩) (.string ⟨#[]⟩) (.slice (some ⟨wb.heap.size, 0, none⟩) 1 1)
        have gz := grown_put6 gb (Nat.le_refl _) (.int .i64 4) (.int .i64 0) (.int .i64 0) (.string ⟨#[]⟩) (.string ⟨#[]⟩) (.slice (some ⟨wb.heap.size, 0, none⟩) 1 1)
        have hsz := put6_size wb w.heap.size (.int .i64 4) (.int .i64 0) (.int .i64 0) (.string ⟨#[]⟩) (.string ⟨#[]⟩) (.slice (some ⟨wb.heap.size, 0, none⟩) 1 1)
        have hrb := (Array.getElem?_eq_some_iff.1 kz).1
        have hrw := (Array.getElem?_eq_some_iff.1 kb).1
        have xbz := xb.put6 hrB (.int .i64 4) (.int .i64 0) (.int .i64 0) (.string ⟨#[]⟩) (.string ⟨#[]⟩) (.slice (some ⟨wb.heap.size, 0, none⟩) 1 1)
        clear ob hb0
        go_wp2_with fail
        change bodyPost Tryz.prog Tryz.f173 _ _ _ ((put6 wb w.heap.size (.int .i64 4) (.int .i64 0) (.int .i64 0) (.string ⟨#[]⟩) (.string ⟨#[]⟩) (.slice (some ⟨wb.heap.size, 0, none⟩) 1 1)).alloc (.cells #[.int .i64 k, .int .i64 x.k, .int .i64 x.n, .string ⟨x.s.toArray⟩, .string ⟨nm.toArray⟩, .slice ao na ca] 29))
        generalize put6 wb w.heap.size (.int .i64 4) (.int .i64 0) (.int .i64 0) (.string ⟨#[]⟩) (.string ⟨#[]⟩) (.slice (some ⟨wb.heap.size, 0, none⟩) 1 1) = wz at *
        obtain ⟨⟨e0, e1, e2, e3, e4, e5⟩, -⟩ := six kz
        refine bodyPost_ret (v := exV 4 vl0 [] (.slice (some ⟨wb.heap.size, 0, none⟩) 1 1)) ?_ rfl (.mkOk (grown_alloc gz _) HL.out (by rw [← hsz]; exact (ex_one (heap_alloc_new wz _) (by rw [hsz]; exact hB1b) (xbz.alloc _) 4 1).weak hBw) (sz.alloc _))
        simp [results, Tryz.results173, go_sem, exV, vl0, e0, e1, e2, e3, e4, e5, hrb]
      | false =>
        have HY2 : Hid (brackP T (exprP T f) i = (kindOf T (placeL opersL) j2).then fun k j => (exprP T f j).then fun b j => (must T [[41]] j).then fun _ j => .ok (.mk (k : Nat) vl0 [] [y, b]) j) := by
          show _ = _; rw [brackP, HY.out, Rs.then_ok, hb0]; rfl
        clear HY ob hb0 p0 p1 p2 p3 p4 p5
        go_wp2_with fail
        refine (kindOf_oper sb).mono ?_
        intro e wc oc
        have gc := grown_trans gb oc.grown
        have kc := (oc.grown.block _ (Array.getElem?_eq_some_iff.1 kb).1 (by simpa using hfr.1)).trans kb
        have k5c := (oc.grown.block _ (Array.getElem?_eq_some_iff.1 k5b).1 (by simpa using h5)).trans k5b
        have xc := xb.grown hpB oc.grown
        have hB1c : B1 ≤ wc.heap.size := Nat.le_trans hB1b oc.grown.size
        cases hk : kindOf T (placeL opersL) j2 with
        | bad j3 =>
          obtain rfl := oc.bad j3 hk
          exact ⟨rfl, .mkBad gc (by rw [HY2.out, hk]; rfl)⟩
        | ok kk j3 =>
          obtain ⟨u, rfl, hu, sc⟩ := oc.ok kk j3 hk
          cases hu
          have HY3 : Hid (brackP T (exprP T f) i = (exprP T f j3).then fun b j => (must T [[41]] j).then fun _ j => .ok (.mk (kk : Nat) vl0 [] [y, b]) j) := by
            show _ = _; rw [HY2.out, hk]; rfl
          have ih1 := ih _ _ sc
          clear HY2 oc hk kb k5b xb sb gb hB1b
          go_wp2_with fail
          refine ih1.mono ?_
          intro e wd od
          have gd := grown_trans gc od.grown
          have kd_ := (od.grown.block _ (Array.getElem?_eq_some_iff.1 kc).1 (by simpa using hfr.1)).trans kc
          have k5d := (od.grown.block _ (Array.getElem?_eq_some_iff.1 k5c).1 (by simpa using h5)).trans k5c
          have xd := xc.grown hpB od.grown
          have hB1d : B1 ≤ wd.heap.size := Nat.le_trans hB1c od.grown.size
          cases hz : exprP T f j3 with
          | bad j4 =>
            obtain rfl := od.bad j4 hz
            exact ⟨rfl, .mkBad gd (by rw [HY3.out, hz]; rfl)⟩
          | ok z j4 =>
            obtain ⟨u, rfl, xd2, sd⟩ := od.ok z j4 hz
            obtain ⟨k2, x2, nm2, ao2, na2, ca2, rfl⟩ := ExAt.form xd2
            have xd2 : ExAt B1 wd (exV k2 x2 nm2 (.slice ao2 na2 ca2)) z := ExAt.weak xd2 hB1c
            have HY4 : Hid (brackP T (exprP T f) i = (must T [[41]] j4).then fun _ j => .ok (.mk (kk : Nat) vl0 [] [y, z]) j) := by
              show _ = _; rw [HY3.out, hz]; rfl
            have sd1 := sd.alloc (.cells #[.int .i64 k2, .int .i64 x2.k, .int .i64 x2.n, .string ⟨x2.s.toArray⟩, .string ⟨nm2.toArray⟩, .slice ao2 na2 ca2] 29)
            have kd1 := (((Below.refl wd.heap.size wd).alloc (Nat.le_refl _) (.cells #[.int .i64 k2, .int .i64 x2.k, .int .i64 x2.n, .string ⟨x2.s.toArray⟩, .string ⟨nm2.toArray⟩, .slice ao2 na2 ca2] 29)).block _ (Array.getElem?_eq_some_iff.1 kd_).1).trans kd_
            have k5d1 := (((Below.refl wd.heap.size wd).alloc (Nat.le_refl _) (.cells #[.int .i64 k2, .int .i64 x2.k, .int .i64 x2.n, .string ⟨x2.s.toArray⟩, .string ⟨nm2.toArray⟩, .slice ao2 na2 ca2] 29)).block _ (Array.getElem?_eq_some_iff.1 k5d).1).trans k5d
            have gd1 := grown_alloc gd (.cells #[.int .i64 k2, .int .i64 x2.k, .int .i64 x2.n, .string ⟨x2.s.toArray⟩, .string ⟨nm2.toArray⟩, .slice ao2 na2 ca2] 29)
            have xd1 := xd.alloc (.cells #[.int .i64 k2, .int .i64 x2.k, .int .i64 x2.n, .string ⟨x2.s.toArray⟩, .string ⟨nm2.toArray⟩, .slice ao2 na2 ca2] 29)
            have xd21 := xd2.alloc (.cells #[.int .i64 k2, .int .i64 x2.k, .int .i64 x2.n, .string ⟨x2.s.toArray⟩, .string ⟨nm2.toArray⟩, .slice ao2 na2 ca2] 29)
            have k7 := heap_alloc_new wd (.cells #[.int .i64 k2, .int .i64 x2.k, .int .i64 x2.n, .string ⟨x2.s.toArray⟩, .string ⟨nm2.toArray⟩, .slice ao2 na2 ca2] 29)
            have h7 : wd.heap.size ≠ pb := (sd.fresh (Nat.le_refl _)).1
            have h76 : wd.heap.size ≠ w.heap.size := by have := (Array.getElem?_eq_some_iff.1 kd_).1; omega
            clear HY3 od hz kc k5c xc sc gc hB1c ih1 ih kd_ k5d xd xd2
            rw [exV]
            go_wp2_with fail
            refine (must_new sd1 [[41]] 1 _ (by simp) _ (by rfl) (by rfl) (by decide) (by decide)).mono ?_
            intro e we oe
            have ge := grown_trans gd1 oe.grown
            have ke := (oe.grown.block _ (Array.getElem?_eq_some_iff.1 kd1).1 (by simpa using hfr.1)).trans kd1
            have k5e := (oe.grown.block _ (Array.getElem?_eq_some_iff.1 k5d1).1 (by simpa using h5)).trans k5d1
            have k7e := (oe.grown.block _ (Array.getElem?_eq_some_iff.1 k7).1 (by simpa using h7)).trans k7
            have xe := xd1.grown hpB oe.grown
            have xe2 := xd21.grown hpB oe.grown
            have hB1e : B1 ≤ we.heap.size := by have := oe.grown.size; simp at this; omega
            cases he0 : must T [[41]] j4 with
            | bad j5 =>
              obtain rfl := oe.bad j5 he0
              exact ⟨rfl, .mkBad ge (by rw [HY4.out, he0]; rfl)⟩
            | ok t5 j5 =>
              obtain ⟨u, rfl, hu, se⟩ := oe.ok t5 j5 he0
              obtain ⟨⟨p0, p1, p2, p3, p4, p5⟩, -⟩ := six k5e
              obtain ⟨⟨q0, q1, q2, q3, q4, q5⟩, -⟩ := six k7e
              have HL : Hid (brackP T (exprP T f) i = .ok (.mk (kk : Nat) vl0 [] [y, z]) j5) := by show _ = _; rw [HY4.out, he0]; rfl
              clear HY4 sd1 kd1 k5d1 gd1 xd1 xd21 k7 sd gd
              obtain ⟨⟨c0, c1, c2, c3, c4, c5⟩, f0, f1, f2, f3, f4, f5⟩ := six ke
              have kz := six_put ke (.int .i64 (kk : Int)) (.int .i64 0) (.int .i64 0) (.string ⟨#[]⟩) (.string ⟨#[]⟩) (.slice (some ⟨we.heap.size, 0, none⟩) 2 2)
              have sz := se.put6 hfr (.int .i64 (kk : Int)) (.int .i64 0) (.int .i64 0) (.string ⟨#[]⟩) (.string ⟨#[]⟩) (.slice (some ⟨we.heap.size, 0, none⟩) 2 2)
              have gz := grown_put6 ge (Nat.le_refl _) (.int .i64 (kk : Int)) (.int .i64 0) (.int .i64 0) (.string ⟨#[]⟩) (.string ⟨#[]⟩) (.slice (some ⟨we.heap.size, 0, none⟩) 2 2)
              have hsz := put6_size we w.heap.size (.int .i64 (kk : Int)) (.int .i64 0) (.int .i64 0) (.string ⟨#[]⟩) (.string ⟨#[]⟩) (.slice (some ⟨we.heap.size, 0, none⟩) 2 2)
              have hrb := (Array.getElem?_eq_some_iff.1 kz).1
              have hrw := (Array.getElem?_eq_some_iff.1 ke).1
              have xez := xe.put6 hrB (.int .i64 (kk : Int)) (.int .i64 0) (.int .i64 0) (.string ⟨#[]⟩) (.string ⟨#[]⟩) (.slice (some ⟨we.heap.size, 0, none⟩) 2 2)
              have xe2z := xe2.put6 hrB (.int .i64 (kk : Int)) (.int .i64 0) (.int .i64 0) (.string ⟨#[]⟩) (.string ⟨#[]⟩) (.slice (some ⟨we.heap.size, 0, none⟩) 2 2)
              clear oe he0
              go_wp2_with fail
              change bodyPost Tryz.prog Tryz.f173 _ _ _ ((put6 we w.heap.size (.int .i64 (kk : Int)) (.int .i64 0) (.int .i64 0) (.string ⟨#[]⟩) (.string ⟨#[]⟩) (.slice (some ⟨we.heap.size, 0, none⟩) 2 2)).alloc (.cells #[.int .i64 k, .int .i64 x.k, .int .i64 x.n, .string ⟨x.s.toArray⟩, .string ⟨nm.toArray⟩, .slice ao na ca, .int .i64 k2, .int .i64 x2.k, .int .i64 x2.n, .string ⟨x2.s.toArray⟩, .string ⟨nm2.toArray⟩, .slice ao2 na2 ca2] 29))
              generalize put6 we w.heap.size (.int .i64 (kk : Int)) (.int .i64 0) (.int .i64 0) (.string ⟨#[]⟩) (.string ⟨#[]⟩) (.slice (some ⟨we.heap.size, 0, none⟩) 2 2) = wz at *
              obtain ⟨⟨e0, e1, e2, e3, e4, e5⟩, -⟩ := six kz
              refine bodyPost_ret (v := exV (kk : Nat) vl0 [] (.slice (some ⟨we.heap.size, 0, none⟩) 2 2)) ?_ rfl (.mkOk (grown_alloc gz _) HL.out (by rw [← hsz]; exact (ex_two (heap_alloc_new wz _) (by rw [hsz]; exact hB1e) (xez.alloc _) (xe2z.alloc _) (kk : Nat) 2).weak hBw) (sz.alloc _))
              simp [results, Tryz.results173, go_sem, exV, vl0, e0, e1, e2, e3, e4, e5, hrb]

set_option maxRecDepth 100000 in
set_option maxHeartbeats 1600000 in
theorem expr_brk {w : World} {base pb : Nat} {v : Value} {T : List Tk} {en : Int} {i : Nat} (h : St w base pb v T en i) (f : Nat) (hf : f < 60) (hn2 : tx T i = [40])
    (ih : ∀ (W : World) (i : Nat), St W base pb v T en i → Calls Tryz.prog 173 #[.pointer (some ⟨pb, 0, none⟩), .int .i64 ((60 - f : Nat) : Int)] W fun e w' => Out W base pb v T en (repE W.heap.size) (brackP T (exprP T f) i) e w') :
    Calls Tryz.prog 150 #[.pointer (some ⟨pb, 0, none⟩), .int .i64 ((59 - f : Nat) : Int)] w fun e w' => Out w base pb v T en (repE w.heap.size) (exprP T (f + 1) i) e w' := by
  have hfr := h.fresh (Nat.le_refl _)
  have s0 := h.alloc (.cells #[.int .i64 0, .int .i64 0, .int .i64 0, .string ⟨#[]⟩, .string ⟨#[]⟩, .slice none 0 0] 29)
  have g0 := grown_alloc (grown_refl w (some pb)) (.cells #[.int .i64 0, .int .i64 0, .int .i64 0, .string ⟨#[]⟩, .string ⟨#[]⟩, .slice none 0 0] 29)
  have k0 : (w.alloc (.cells #[.int .i64 0, .int .i64 0, .int .i64 0, .string ⟨#[]⟩, .string ⟨#[]⟩, .slice none 0 0] 29)).heap[w.heap.size]? = some (.cells #[.int .i64 0, .int .i64 0, .int .i64 0, .string ⟨#[]⟩, .string ⟨#[]⟩, .slice none 0 0] 29) := heap_alloc_new _ _
  have hn1 : tx T i ≠ w_not := by rw [hn2]; decide
  have HR : Hid (exprP T (f + 1) i = brackP T (exprP T f) (i + 1)) := by show _ = _; rw [exprP, if_neg hn1, if_pos hn2]
  have hm : ((59 - f : Nat) : Int) < 60 := by omega
  have hm0 : 0 ≤ ((59 - f : Nat) : Int) := by omega
  have hm1 : ((60 - f : Nat) : Int) = ((59 - f : Nat) : Int) + 1 := by omega
  rw [hm1] at ih
  generalize ((59 - f : Nat) : Int) = m at hm hm0 ih ⊢
  have m1 := may_nil s0 w_not (by decide)
  simp only [hn1, if_false, decide_false] at m1
  clear hm1 hf
  go_enter Tryz.func150, Tryz.ntmps150
  go_wp2_with fail
  refine m1.mono ?_
  rintro e wb ⟨rfl, gb', sb⟩
  have kb := (gb'.block w.heap.size (Array.getElem?_eq_some_iff.1 k0).1 (by simpa using hfr.1)).trans k0
  have gb := grown_trans g0 gb'
  have m2 := may_nil sb [40] (by decide)
  simp only [hn2, if_true, decide_true] at m2
  clear m1 gb' k0 s0 g0 hn1 hn2
  go_wp2_with fail
  refine m2.mono ?_
  rintro e wc ⟨rfl, gc', sc⟩
  have kc := (gc'.block w.heap.size (Array.getElem?_eq_some_iff.1 kb).1 (by simpa using hfr.1)).trans kb
  have gc := grown_trans gb gc'
  have hwc := (Array.getElem?_eq_some_iff.1 kc).1
  clear m2 gc' kb sb gb
  go_wp2_with fail
  refine (ih _ _ sc).mono ?_
  intro e wd od
  have gd := grown_trans gc od.grown
  cases hy : brackP T (exprP T f) (i + 1) with
  | bad j =>
    obtain rfl := od.bad j hy
    exact ⟨rfl, .mkBad gd (by rw [HR.out, hy])⟩
  | ok y j =>
    obtain ⟨u, rfl, xd, sd⟩ := od.ok y j hy
    obtain ⟨k, x, nm, ao, na, ca, rfl⟩ := ExAt.form xd
    have kd_ := (od.grown.block w.heap.size hwc (by simpa using hfr.1)).trans kc
    have HL : Hid (exprP T (f + 1) i = .ok y j) := by show _ = _; rw [HR.out, hy]
    have xd : ExAt wc.heap.size wd (exV k x nm (.slice ao na ca)) y := xd
    clear kc sc HR ih
    rw [exV]
    obtain ⟨⟨c0, c1, c2, c3, c4, c5⟩, f0, f1, f2, f3, f4, f5⟩ := six kd_
    have kz := six_put kd_ (.int .i64 k) (.int .i64 x.k) (.int .i64 x.n) (.string ⟨x.s.toArray⟩) (.string ⟨nm.toArray⟩) (.slice ao na ca)
    have sz := sd.put6 hfr (.int .i64 k) (.int .i64 x.k) (.int .i64 x.n) (.string ⟨x.s.toArray⟩) (.string ⟨nm.toArray⟩) (.slice ao na ca)
    have gz := grown_put6 gd (Nat.le_refl _) (.int .i64 k) (.int .i64 x.k) (.int .i64 x.n) (.string ⟨x.s.toArray⟩) (.string ⟨nm.toArray⟩) (.slice ao na ca)
    have hx : repE w.heap.size (put6 wd w.heap.size (.int .i64 k) (.int .i64 x.k) (.int .i64 x.n) (.string ⟨x.s.toArray⟩) (.string ⟨nm.toArray⟩) (.slice ao na ca)) (exV k x nm (.slice ao na ca)) y := ((xd.put6 hwc _ _ _ _ _ _).weak gc.size : ExAt _ _ _ _)
    clear kd_ sd gd od hy xd hwc gc
    go_wp2_with fail
    change bodyPost Tryz.prog Tryz.f150 _ _ _ (put6 wd w.heap.size (.int .i64 k) (.int .i64 x.k) (.int .i64 x.n) (.string ⟨x.s.toArray⟩) (.string ⟨nm.toArray⟩) (.slice ao na ca))
    generalize put6 wd w.heap.size (.int .i64 k) (.int .i64 x.k) (.int .i64 x.n) (.string ⟨x.s.toArray⟩) (.string ⟨nm.toArray⟩) (.slice ao na ca) = wz at *
    obtain ⟨⟨e0, e1, e2, e3, e4, e5⟩, -⟩ := six kz
    refine bodyPost_ret (v := exV k x nm (.slice ao na ca)) ?_ rfl (.mkOk gz HL.out hx sz)
    simp [results, Tryz.results150, go_sem, exV, e0, e1, e2, e3, e4, e5]

theorem expr_any {base pb : Nat} {v : Value} {T : List Tk} {en : Int} (f : Nat) : ∀ (_ : f ≤ 60) (w : World) (i : Nat) (_ : St w base pb v T en i),
    Calls Tryz.prog 150 #[.pointer (some ⟨pb, 0, none⟩), .int .i64 ((60 - f : Nat) : Int)] w fun e w' => Out w base pb v T en (repE w.heap.size) (exprP T f i) e w' := by
  induction f with
  | zero => intro hf w i h; exact expr_zero h
  | succ f ih =>
    intro hf w i h
    rw [show 60 - (f + 1) = 59 - f by omega]
    by_cases h1 : tx T i = w_not
    · exact expr_not h f (by omega) h1 fun W j hW => ih (by omega) W j hW
    by_cases h2 : tx T i = [40]
    · exact expr_brk h f (by omega) h2 fun W j hW => bracket_any hW _ f fun W j hW => ih (by omega) W j hW
    · exact expr_leaf h f (by omega) h1 h2

end Go.Proofs.YtkpeklealgicpabGreatDoor

namespace Go.Proofs.YtkpeklealgicpabGreatDoor
open Go.RowKit

/-- a slice in memory, of so many elements, with such cells, in a block from B on -/
def RowAt (B : Nat) (w : World) (u : Value) (n : Nat) (xs : List Value) : Prop :=
  (n = 0 ∧ ∃ ao cap, u = .slice ao 0 cap) ∨ ∃ b off cap, u = .slice (some ⟨b, off, none⟩) n cap ∧ B ≤ b ∧ b < w.heap.size ∧ ∀ j x, xs[j]? = some x → w.cell? ⟨b, off + j, none⟩ = some x

theorem RowAt.keep {B : Nat} {w w' : World} {u : Value} {n : Nat} {xs : List Value} (h : RowAt B w u n xs) (hs : w.heap.size ≤ w'.heap.size) (hk : ∀ b, B ≤ b → b < w.heap.size → w'.heap[b]? = w.heap[b]?) : RowAt B w' u n xs := by
  rcases h with h | ⟨b, off, cap, hu, hB, hl, hc⟩
  · exact .inl h
  · exact .inr ⟨b, off, cap, hu, hB, Nat.lt_of_lt_of_le hl hs, fun j x hj => (World.cell?_of_block (w := w) (hk b hB hl)).trans (hc j x hj)⟩
theorem RowAt.grown {B pb : Nat} {w w' : World} {u : Value} {n : Nat} {xs : List Value} (h : RowAt B w u n xs) (hp : pb < B) (hg : w.grownBy w' (some pb)) : RowAt B w' u n xs :=
  h.keep hg.size fun b hB hs => hg.block b hs (by simp only [ne_eq, Option.some.injEq]; omega)
theorem RowAt.put {B : Nat} {w : World} {u : Value} {n : Nat} {xs : List Value} (h : RowAt B w u n xs) {b : Nat} (hb : b < B) (o : Nat) (y : Value) : RowAt B (w.setCell ⟨b, o, none⟩ y) u n xs :=
  h.keep (by simp [World.setCell]) fun c hc _ => heap_setCell_other w _ c y (by simp only; omega)
theorem RowAt.alloc {B : Nat} {w : World} {u : Value} {n : Nat} {xs : List Value} (h : RowAt B w u n xs) (o : Obj) : RowAt B (w.alloc o) u n xs :=
  h.keep (by simp) fun b _ hs => ((Below.refl w.heap.size w).alloc (Nat.le_refl _) o).block b hs
theorem RowAt.under {B : Nat} {w w' : World} {u : Value} {n : Nat} {xs : List Value} (h : RowAt B w u n xs) (hb : Below w.heap.size w w') : RowAt B w' u n xs :=
  h.keep hb.size fun b _ hs => hb.block b hs
theorem RowAt.weak {B B' : Nat} {w : World} {u : Value} {n : Nat} {xs : List Value} (h : RowAt B w u n xs) (hB : B' ≤ B) : RowAt B' w u n xs := by
  rcases h with h | ⟨b, off, cap, hu, hb, hl, hc⟩
  · exact .inl h
  · exact .inr ⟨b, off, cap, hu, Nat.le_trans hB hb, hl, hc⟩
theorem RowAt.form {B : Nat} {w : World} {u : Value} {n : Nat} {xs : List Value} (h : RowAt B w u n xs) : ∃ ao cap, u = .slice ao n cap := by
  rcases h with ⟨rfl, ao, cap, rfl⟩ | ⟨b, off, cap, rfl, -⟩
  · exact ⟨_, _, rfl⟩
  · exact ⟨_, _, rfl⟩
theorem RowAt.nil (B : Nat) (w : World) (xs : List Value) : RowAt B w (.slice none 0 0) 0 xs := .inl ⟨rfl, _, _, rfl⟩

theorem row_of {B : Nat} {w : World} {e : TypeId} {size : Nat} {u : Value} {n : Nat} {xs : List Value} (h : w.ownsRow B e size u n xs) : RowAt B w u n xs := by
  rcases h.2 with ⟨hv, h0⟩ | ⟨g, cap, cur, hv, hb, hg, hrest⟩
  · exact .inl ⟨h0, none, 0, hv⟩
  · refine .inr ⟨g, 0, cap, hv, hb, (Array.getElem?_eq_some_iff.1 hg).1, fun j x hj => ?_⟩
    rw [hv] at h
    rw [Nat.zero_add]
    exact owned_at h j x hj

def clC (c : Cl) : List Value := [.string ⟨c.name.toArray⟩, .int .i64 c.ty]
def vlC (x : Vl) : List Value := [.int .i64 x.k, .int .i64 x.n, .string ⟨x.s.toArray⟩]
def stC (s : List UInt8) : List Value := [.string ⟨s.toArray⟩]

/-- where the parser stands, off the world -/
def atP (w : World) (pb : Nat) : Nat := match w.cell? ⟨pb, 1, none⟩ with | some x => (intOf x).toNat | none => 0
theorem St.at {w : World} {base pb : Nat} {v : Value} {T : List Tk} {en : Int} {i : Nat} (h : St w base pb v T en i) : atP w pb = i := by
  obtain ⟨⟨-, c1, -⟩, -⟩ := three h.blk
  simp [atP, c1, intOf]

theorem owns_new (w : World) (B : Nat) (e : TypeId) (size : Nat) (cs : Array Value) (hs : cs.size = size) (hB : B ≤ w.heap.size) : (w.alloc (.cells cs e)).ownsRow B e size (.slice (some ⟨w.heap.size, 0, none⟩) 1 1) 1 cs.toList := by
  refine ⟨by simp [hs], .inr ⟨w.heap.size, 1, cs, rfl, hB, heap_alloc_new _ _, Nat.le_refl _, by decide, by omega, ?_⟩⟩
  rw [List.take_of_length_le]
  simp [hs]

theorem nameP_mono (T : List Tk) (i j : Nat) (a : List UInt8) (h : nameP T i = .ok a j) : i ≤ j := by
  rw [nameP] at h; split at h
  · cases h; omega
  · cases h
theorem kindOf_mono (T : List Tk) (f : List UInt8 → Nat) (i j a : Nat) (h : kindOf T f i = .ok a j) : i ≤ j := by
  rw [kindOf] at h; split at h
  · cases h
  · cases h; omega
theorem numberP_mono (T : List Tk) (l i j a : Nat) (h : numberP T l i = .ok a j) : i ≤ j := by
  rw [numberP] at h; split at h
  · cases h; omega
  · cases h
theorem then_ok {α β : Type} {r : Rs α} {f : α → Nat → Rs β} {b : β} {j : Nat} (h : r.then f = .ok b j) : ∃ a k, r = .ok a k ∧ f a k = .ok b j := by
  cases r with
  | ok a k => exact ⟨a, k, rfl, h⟩
  | bad k => cases h
theorem columnP_mono (T : List Tk) (i j : Nat) (a : Cl) (h : columnP T i = .ok a j) : i ≤ j := by
  obtain ⟨s, k, h1, h2⟩ := then_ok h
  obtain ⟨s2, k2, h3, h4⟩ := then_ok h2
  cases h4
  exact Nat.le_trans (nameP_mono T i k s h1) (kindOf_mono T _ k _ _ h3)
theorem oneOf_mono (T : List Tk) (i j : Nat) (s : List UInt8) : ∀ ws, oneOf T ws i = .ok s j → i ≤ j := by
  intro ws
  induction ws with
  | nil => intro h; cases h
  | cons x r ih =>
    intro h
    rw [oneOf] at h
    split at h
    · cases h; omega
    · exact ih h
theorem valueP_mono (T : List Tk) (i j : Nat) (a : Vl) (h : valueP T i = .ok a j) : i ≤ j := by
  rw [valueP] at h
  split at h
  · obtain ⟨n, k, h1, h2⟩ := then_ok h
    cases h2
    exact numberP_mono T 0 i _ _ h1
  · split at h
    · cases h; omega
    · obtain ⟨s, k, h1, h2⟩ := then_ok h
      have := oneOf_mono T i k s _ h1
      split at h2
      · obtain ⟨n, k2, h3, h4⟩ := then_ok h2
        cases h4
        exact Nat.le_trans this (numberP_mono T 1 _ _ _ h3)
      · split at h2
        · cases h2; exact this
        · split at h2
          · cases h2; exact this
          · cases h2; exact this

theorem hmf (fn : Fn) (first cap : Array Value) (w : World) : (Instr.makeFunc fn first cap).run Tryz.prog w = .ok (.func fn first cap) w := rfl


theorem Tryz.info_col : (Tryz.prog.info? 56).map (fun i => (i.zero, i.size, i.bytes)) = some (some (.agg #[.string ⟨#[]⟩, .int .i64 0]), 2, 24) := by kernel_rfl

set_option maxRecDepth 100000 in
set_option maxHeartbeats 1600000 in
theorem list_col {w : World} {base pb : Nat} {v : Value} {T : List Tk} {en : Int} {i : Nat} (h : St w base pb v T en i) :
    Calls Tryz.prog 169 #[.pointer (some ⟨pb, 0, none⟩), .func (.func 144) #[.pointer (some ⟨pb, 0, none⟩)] #[]] w fun e w' =>
      Out w base pb v T en (fun w' u (l : List (Cl)) => w'.ownsRow w.heap.size 56 2 u l.length (l.flatMap clC)) (listP T (columnP T) i) e w' := by
  obtain ⟨i0, hi, hz0, hz1, hz2⟩ := info_parts Tryz.info_col
  have hfw := h.few
  have hpl := h.heapLt
  go_enter Tryz.func169, Tryz.ntmps169
  go_wp2_with fail
  refine (column_any h).mono ?_
  intro e wa oa
  have ga := oa.grown
  cases hy : columnP T i with
  | bad j =>
    obtain rfl := oa.bad j hy
    exact ⟨rfl, .mkBad ga (by rw [listP, hy]; rfl)⟩
  | ok x j =>
    obtain ⟨u, rfl, hu, sa⟩ := oa.ok x j hy
    cases hu
    have HL : Hid (listP T (columnP T) i = listGo T (columnP T) (T.length + 1) [x] j) := by show _ = _; rw [listP, hy]; rfl
    have hij := columnP_mono T i j x hy
    have sa1 := sa.alloc (.cells #[.string ⟨x.name.toArray⟩, .int .i64 x.ty] 56)
    have ga1 := grown_alloc ga (.cells #[.string ⟨x.name.toArray⟩, .int .i64 x.ty] 56)
    have ow := owns_new wa w.heap.size 56 2 #[.string ⟨x.name.toArray⟩, .int .i64 x.ty] rfl ga.size
    clear hy oa ga sa
    rw [clV]
    go_wp2_with fail
    go_loopw [5] (fun l wr => ∃ (acc : List (Cl)) (j f : Nat), wr.ownsRow w.heap.size 56 2 l acc.length (acc.flatMap clC) ∧ w.grownBy wr (some pb) ∧ St wr base pb v T en j ∧ T.length < f + j ∧ acc.length ≤ j + 1 ∧ Hid (listP T (columnP T) i = listGo T (columnP T) f acc j)) (fun _ wr => T.length + 1 - atP wr pb)
    case atStart => exact ⟨[x], j, T.length + 1, ow, ga1, sa1, by omega, by simp, HL⟩
    case round =>
      obtain ⟨acc, j, f, hown, hg, hst, hf, hacc, HE⟩ := hrel
      have hat := hst.at
      have hjl := hst.le
      have hmay := may_nil hst [44] (by decide)
      clear HL hij ow ga1 sa1
      by_cases hc : tx T j = [44]
      · have hjlt : j < T.length := tx_lt (by rw [hc]; decide)
        simp only [hc, if_true, decide_true] at hmay
        obtain ⟨f', rfl⟩ : ∃ f', f = f' + 1 := ⟨f - 1, by omega⟩
        have HE2 : Hid (listP T (columnP T) i = (columnP T (j + 1)).then fun x j => listGo T (columnP T) f' (acc ++ [x]) j) := by show _ = _; rw [HE.out, listGo, if_pos hc]
        clear HE hc
        go_wp2_with (go_at_call 141; refine hmay.mono ?_; rintro e wb ⟨rfl, gb, sb⟩)
        refine (column_any sb).mono ?_
        intro e wc oc
        have gc := grown_trans gb oc.grown
        cases hz : columnP T (j + 1) with
        | bad j2 =>
          obtain rfl := oc.bad j2 hz
          exact ⟨rfl, .mkBad (grown_trans hg gc) (by rw [HE2.out, hz]; rfl)⟩
        | ok x j2 =>
          obtain ⟨u, rfl, hu, sc⟩ := oc.ok x j2 hz
          cases hu
          have hjj := columnP_mono T _ _ _ hz
          have HE3 : Hid (listP T (columnP T) i = listGo T (columnP T) f' (acc ++ [x]) j2) := by show _ = _; rw [HE2.out, hz]; rfl
          have hown2 := (hown.kept gc (by
            rcases hown.2 with ⟨hv, -⟩ | ⟨g, cap, cur, hv, hb, -⟩
            · rw [hv]; exact .inl rfl
            · rw [hv]; right; simp only [Value.ownBlock, ne_eq, Option.some.injEq]; omega)).alloc (.cells #[.string ⟨x.name.toArray⟩, .int .i64 x.ty] 56)
          have sc1 := sc.alloc (.cells #[.string ⟨x.name.toArray⟩, .int .i64 x.ty] 56)
          have hlt5 := hown2.lt
          have hgs := hg.size
          have hgs2 := gc.size
          have hjl2 := sc.le
          clear HE2 hz oc hown sb hmay
          rw [clV]
          go_wp2_with (at_builtin; refine wpList_append_own _ rfl _ _ 22 rfl w.heap.size 56 i0 (.agg #[.string ⟨#[]⟩, .int .i64 0]) 2 24 Tryz.underlying22 hi hz0 hz1 hz2 rfl (by decide) _ _ _ rfl hown2 ⟨wc.heap.size, 0, none⟩ 1 1 [.string ⟨x.name.toArray⟩, .int .i64 x.ty] rfl rfl ?c1 ?c2 ?c3 ?c4 ?c5 ?_)
          case c1 =>
            intro j u hj
            match j, hj with
              | 0, hj => simp at hj; subst hj; simp [Addr.add]
              | 1, hj => simp at hj; subst hj; simp [Addr.add]
          case c2 => intro u hu; simp at hu; rcases hu with rfl | rfl <;> rfl
          case c3 => unfold maxLen; omega
          case c4 => omega
          case c5 => simp; omega
          intro v' w3 hown' hgrow _
          have hg3 : w.grownBy w3 (some pb) := by
            have q := grown_alloc (grown_trans hg gc) (.cells #[.string ⟨x.name.toArray⟩, .int .i64 x.ty] 56)
            refine ⟨hgrow.os.trans q.os, hgrow.tape.trans q.tape, hgrow.output.trans q.output, Nat.le_trans q.size hgrow.size, fun k hk hr => (hgrow.block k (Nat.lt_of_lt_of_le hk q.size) ?_).trans (q.block k hk hr)⟩
            intro e
            have := (hlt5 _ e.symm).1
            omega
          have sc3 : St w3 base pb v T en j2 := by
            have hpb : some pb ≠ _ := fun e => by have := (hlt5 _ e.symm).1; omega
            refine ⟨(hgrow.block pb sc1.heapLt hpb).trans sc1.blk, sc1.own.kept hgrow ?_, sc1.ne, sc1.le, sc1.few, sc1.six, sc1.gl.keep hgrow.size fun k hk => hgrow.block k (Nat.lt_of_lt_of_le hk sc1.gl.sz) (fun e => by have := (hlt5 _ e.symm).1; have := h.gl.sz; omega), sc1.toks⟩
            rcases h.own.2 with ⟨hv, -⟩ | ⟨g, cap, cur, hv, -, hgg, -⟩
            · rw [hv]; exact .inl rfl
            · right
              intro e
              rw [hv] at e
              have := (hlt5 g e.symm).1
              have := (Array.getElem?_eq_some_iff.1 hgg).1
              omega
          have R3 : w3.ownsRow w.heap.size 56 2 v' (acc ++ [x]).length ((acc ++ [x]).flatMap clC) := by
            rw [List.length_append, List.flatMap_append]
            have e1 : [x].flatMap clC = clC x := by simp
            rw [e1]; exact hown'
          have hat3 := sc3.at
          clear hown' hgrow hown2 hlt5 sc1 sc gc hg
          go_wp2
          go_roundw
          case rel => exact ⟨acc ++ [x], j2, f', R3, hg3, sc3, by omega, by simp; omega, HE3⟩
          case measure => rw [hat3, hat]; omega
      · simp only [hc, if_false, decide_false] at hmay
        have HE2 : Hid (listP T (columnP T) i = .ok acc j) := by
          show _ = _
          rw [HE.out]
          cases f with
          | zero => rfl
          | succ f => rw [listGo, if_neg hc]
        clear HE hc
        have hgb := fun (wb : World) (gb : wr.grownBy wb (some pb)) => hown.kept gb (by
          rcases hown.2 with ⟨hv, -⟩ | ⟨g, cap, cur, hv, hb, -⟩
          · rw [hv]; exact .inl rfl
          · rw [hv]; right; simp only [Value.ownBlock, ne_eq, Option.some.injEq]; omega)
        obtain ⟨ao, cap, hv⟩ := owns_slice hown
        subst hv
        clear hown
        go_wp2_with (go_at_call 141; refine hmay.mono ?_; rintro e wb ⟨rfl, gb, sb⟩)
        go_ret
        exact .mkOk (grown_trans hg gb) HE2.out (hgb _ gb) sb

theorem Tryz.info_val : (Tryz.prog.info? 24).map (fun i => (i.zero, i.size, i.bytes)) = some (some (.agg #[.int .i64 0, .int .i64 0, .string ⟨#[]⟩]), 3, 32) := by kernel_rfl

set_option maxRecDepth 100000 in
set_option maxHeartbeats 1600000 in
theorem list_val {w : World} {base pb : Nat} {v : Value} {T : List Tk} {en : Int} {i : Nat} (h : St w base pb v T en i) :
    Calls Tryz.prog 172 #[.pointer (some ⟨pb, 0, none⟩), .func (.func 146) #[.pointer (some ⟨pb, 0, none⟩)] #[]] w fun e w' =>
      Out w base pb v T en (fun w' u (l : List (Vl)) => w'.ownsRow w.heap.size 24 3 u l.length (l.flatMap vlC)) (listP T (valueP T) i) e w' := by
  obtain ⟨i0, hi, hz0, hz1, hz2⟩ := info_parts Tryz.info_val
  have hfw := h.few
  have hpl := h.heapLt
  go_enter Tryz.func172, Tryz.ntmps172
  go_wp2_with fail
  refine (value_any h).mono ?_
  intro e wa oa
  have ga := oa.grown
  cases hy : valueP T i with
  | bad j =>
    obtain rfl := oa.bad j hy
    exact ⟨rfl, .mkBad ga (by rw [listP, hy]; rfl)⟩
  | ok x j =>
    obtain ⟨u, rfl, hu, sa⟩ := oa.ok x j hy
    cases hu
    have HL : Hid (listP T (valueP T) i = listGo T (valueP T) (T.length + 1) [x] j) := by show _ = _; rw [listP, hy]; rfl
    have hij := valueP_mono T i j x hy
    have sa1 := sa.alloc (.cells #[.int .i64 x.k, .int .i64 x.n, .string ⟨x.s.toArray⟩] 24)
    have ga1 := grown_alloc ga (.cells #[.int .i64 x.k, .int .i64 x.n, .string ⟨x.s.toArray⟩] 24)
    have ow := owns_new wa w.heap.size 24 3 #[.int .i64 x.k, .int .i64 x.n, .string ⟨x.s.toArray⟩] rfl ga.size
    clear hy oa ga sa
    rw [vlV]
    go_wp2_with fail
    go_loopw [5] (fun l wr => ∃ (acc : List (Vl)) (j f : Nat), wr.ownsRow w.heap.size 24 3 l acc.length (acc.flatMap vlC) ∧ w.grownBy wr (some pb) ∧ St wr base pb v T en j ∧ T.length < f + j ∧ acc.length ≤ j + 1 ∧ Hid (listP T (valueP T) i = listGo T (valueP T) f acc j)) (fun _ wr => T.length + 1 - atP wr pb)
    case atStart => exact ⟨[x], j, T.length + 1, ow, ga1, sa1, by omega, by simp, HL⟩
    case round =>
      obtain ⟨acc, j, f, hown, hg, hst, hf, hacc, HE⟩ := hrel
      have hat := hst.at
      have hjl := hst.le
      have hmay := may_nil hst [44] (by decide)
      clear HL hij ow ga1 sa1
      by_cases hc : tx T j = [44]
      · have hjlt : j < T.length := tx_lt (by rw [hc]; decide)
        simp only [hc, if_true, decide_true] at hmay
        obtain ⟨f', rfl⟩ : ∃ f', f = f' + 1 := ⟨f - 1, by omega⟩
        have HE2 : Hid (listP T (valueP T) i = (valueP T (j + 1)).then fun x j => listGo T (valueP T) f' (acc ++ [x]) j) := by show _ = _; rw [HE.out, listGo, if_pos hc]
        clear HE hc
        go_wp2_with (go_at_call 141; refine hmay.mono ?_; rintro e wb ⟨rfl, gb, sb⟩)
        refine (value_any sb).mono ?_
        intro e wc oc
        have gc := grown_trans gb oc.grown
        cases hz : valueP T (j + 1) with
        | bad j2 =>
          obtain rfl := oc.bad j2 hz
          exact ⟨rfl, .mkBad (grown_trans hg gc) (by rw [HE2.out, hz]; rfl)⟩
        | ok x j2 =>
          obtain ⟨u, rfl, hu, sc⟩ := oc.ok x j2 hz
          cases hu
          have hjj := valueP_mono T _ _ _ hz
          have HE3 : Hid (listP T (valueP T) i = listGo T (valueP T) f' (acc ++ [x]) j2) := by show _ = _; rw [HE2.out, hz]; rfl
          have hown2 := (hown.kept gc (by
            rcases hown.2 with ⟨hv, -⟩ | ⟨g, cap, cur, hv, hb, -⟩
            · rw [hv]; exact .inl rfl
            · rw [hv]; right; simp only [Value.ownBlock, ne_eq, Option.some.injEq]; omega)).alloc (.cells #[.int .i64 x.k, .int .i64 x.n, .string ⟨x.s.toArray⟩] 24)
          have sc1 := sc.alloc (.cells #[.int .i64 x.k, .int .i64 x.n, .string ⟨x.s.toArray⟩] 24)
          have hlt5 := hown2.lt
          have hgs := hg.size
          have hgs2 := gc.size
          have hjl2 := sc.le
          clear HE2 hz oc hown sb hmay
          rw [vlV]
          go_wp2_with (at_builtin; refine wpList_append_own _ rfl _ _ 25 rfl w.heap.size 24 i0 (.agg #[.int .i64 0, .int .i64 0, .string ⟨#[]⟩]) 3 32 Tryz.underlying25 hi hz0 hz1 hz2 rfl (by decide) _ _ _ rfl hown2 ⟨wc.heap.size, 0, none⟩ 1 1 [.int .i64 x.k, .int .i64 x.n, .string ⟨x.s.toArray⟩] rfl rfl ?c1 ?c2 ?c3 ?c4 ?c5 ?_)
          case c1 =>
            intro j u hj
            match j, hj with
              | 0, hj => simp at hj; subst hj; simp [Addr.add]
              | 1, hj => simp at hj; subst hj; simp [Addr.add]
              | 2, hj => simp at hj; subst hj; simp [Addr.add]
          case c2 => intro u hu; simp at hu; rcases hu with rfl | rfl | rfl <;> rfl
          case c3 => unfold maxLen; omega
          case c4 => omega
          case c5 => simp; omega
          intro v' w3 hown' hgrow _
          have hg3 : w.grownBy w3 (some pb) := by
            have q := grown_alloc (grown_trans hg gc) (.cells #[.int .i64 x.k, .int .i64 x.n, .string ⟨x.s.toArray⟩] 24)
            refine ⟨hgrow.os.trans q.os, hgrow.tape.trans q.tape, hgrow.output.trans q.output, Nat.le_trans q.size hgrow.size, fun k hk hr => (hgrow.block k (Nat.lt_of_lt_of_le hk q.size) ?_).trans (q.block k hk hr)⟩
            intro e
            have := (hlt5 _ e.symm).1
            omega
          have sc3 : St w3 base pb v T en j2 := by
            have hpb : some pb ≠ _ := fun e => by have := (hlt5 _ e.symm).1; omega
            refine ⟨(hgrow.block pb sc1.heapLt hpb).trans sc1.blk, sc1.own.kept hgrow ?_, sc1.ne, sc1.le, sc1.few, sc1.six, sc1.gl.keep hgrow.size fun k hk => hgrow.block k (Nat.lt_of_lt_of_le hk sc1.gl.sz) (fun e => by have := (hlt5 _ e.symm).1; have := h.gl.sz; omega), sc1.toks⟩
            rcases h.own.2 with ⟨hv, -⟩ | ⟨g, cap, cur, hv, -, hgg, -⟩
            · rw [hv]; exact .inl rfl
            · right
              intro e
              rw [hv] at e
              have := (hlt5 g e.symm).1
              have := (Array.getElem?_eq_some_iff.1 hgg).1
              omega
          have R3 : w3.ownsRow w.heap.size 24 3 v' (acc ++ [x]).length ((acc ++ [x]).flatMap vlC) := by
            rw [List.length_append, List.flatMap_append]
            have e1 : [x].flatMap vlC = vlC x := by simp
            rw [e1]; exact hown'
          have hat3 := sc3.at
          clear hown' hgrow hown2 hlt5 sc1 sc gc hg
          go_wp2
          go_roundw
          case rel => exact ⟨acc ++ [x], j2, f', R3, hg3, sc3, by omega, by simp; omega, HE3⟩
          case measure => rw [hat3, hat]; omega
      · simp only [hc, if_false, decide_false] at hmay
        have HE2 : Hid (listP T (valueP T) i = .ok acc j) := by
          show _ = _
          rw [HE.out]
          cases f with
          | zero => rfl
          | succ f => rw [listGo, if_neg hc]
        clear HE hc
        have hgb := fun (wb : World) (gb : wr.grownBy wb (some pb)) => hown.kept gb (by
          rcases hown.2 with ⟨hv, -⟩ | ⟨g, cap, cur, hv, hb, -⟩
          · rw [hv]; exact .inl rfl
          · rw [hv]; right; simp only [Value.ownBlock, ne_eq, Option.some.injEq]; omega)
        obtain ⟨ao, cap, hv⟩ := owns_slice hown
        subst hv
        clear hown
        go_wp2_with (go_at_call 141; refine hmay.mono ?_; rintro e wb ⟨rfl, gb, sb⟩)
        go_ret
        exact .mkOk (grown_trans hg gb) HE2.out (hgb _ gb) sb

theorem Tryz.info_str : (Tryz.prog.info? 9).map (fun i => (i.zero, i.size, i.bytes)) = some (some (.string ⟨#[]⟩), 1, 16) := by kernel_rfl

set_option maxRecDepth 100000 in
set_option maxHeartbeats 1600000 in
theorem list_str {w : World} {base pb : Nat} {v : Value} {T : List Tk} {en : Int} {i : Nat} (h : St w base pb v T en i) :
    Calls Tryz.prog 151 #[.pointer (some ⟨pb, 0, none⟩), .func (.func 142) #[.pointer (some ⟨pb, 0, none⟩)] #[]] w fun e w' =>
      Out w base pb v T en (fun w' u (l : List (List UInt8)) => w'.ownsRow w.heap.size 9 1 u l.length (l.flatMap stC)) (listP T (nameP T) i) e w' := by
  obtain ⟨i0, hi, hz0, hz1, hz2⟩ := info_parts Tryz.info_str
  have hfw := h.few
  have hpl := h.heapLt
  go_enter Tryz.func151, Tryz.ntmps151
  go_wp2_with fail
  refine (name_any h).mono ?_
  intro e wa oa
  have ga := oa.grown
  cases hy : nameP T i with
  | bad j =>
    obtain rfl := oa.bad j hy
    exact ⟨rfl, .mkBad ga (by rw [listP, hy]; rfl)⟩
  | ok x j =>
    obtain ⟨u, rfl, hu, sa⟩ := oa.ok x j hy
    cases hu
    have HL : Hid (listP T (nameP T) i = listGo T (nameP T) (T.length + 1) [x] j) := by show _ = _; rw [listP, hy]; rfl
    have hij := nameP_mono T i j x hy
    have sa1 := sa.alloc (.cells #[.string ⟨x.toArray⟩] 9)
    have ga1 := grown_alloc ga (.cells #[.string ⟨x.toArray⟩] 9)
    have ow := owns_new wa w.heap.size 9 1 #[.string ⟨x.toArray⟩] rfl ga.size
    clear hy oa ga sa
    go_wp2_with fail
    go_loopw [5] (fun l wr => ∃ (acc : List (List UInt8)) (j f : Nat), wr.ownsRow w.heap.size 9 1 l acc.length (acc.flatMap stC) ∧ w.grownBy wr (some pb) ∧ St wr base pb v T en j ∧ T.length < f + j ∧ acc.length ≤ j + 1 ∧ Hid (listP T (nameP T) i = listGo T (nameP T) f acc j)) (fun _ wr => T.length + 1 - atP wr pb)
    case atStart => exact ⟨[x], j, T.length + 1, ow, ga1, sa1, by omega, by simp, HL⟩
    case round =>
      obtain ⟨acc, j, f, hown, hg, hst, hf, hacc, HE⟩ := hrel
      have hat := hst.at
      have hjl := hst.le
      have hmay := may_nil hst [44] (by decide)
      clear HL hij ow ga1 sa1
      by_cases hc : tx T j = [44]
      · have hjlt : j < T.length := tx_lt (by rw [hc]; decide)
        simp only [hc, if_true, decide_true] at hmay
        obtain ⟨f', rfl⟩ : ∃ f', f = f' + 1 := ⟨f - 1, by omega⟩
        have HE2 : Hid (listP T (nameP T) i = (nameP T (j + 1)).then fun x j => listGo T (nameP T) f' (acc ++ [x]) j) := by show _ = _; rw [HE.out, listGo, if_pos hc]
        clear HE hc
        go_wp2_with (go_at_call 141; refine hmay.mono ?_; rintro e wb ⟨rfl, gb, sb⟩)
        refine (name_any sb).mono ?_
        intro e wc oc
        have gc := grown_trans gb oc.grown
        cases hz : nameP T (j + 1) with
        | bad j2 =>
          obtain rfl := oc.bad j2 hz
          exact ⟨rfl, .mkBad (grown_trans hg gc) (by rw [HE2.out, hz]; rfl)⟩
        | ok x j2 =>
          obtain ⟨u, rfl, hu, sc⟩ := oc.ok x j2 hz
          cases hu
          have hjj := nameP_mono T _ _ _ hz
          have HE3 : Hid (listP T (nameP T) i = listGo T (nameP T) f' (acc ++ [x]) j2) := by show _ = _; rw [HE2.out, hz]; rfl
          have hown2 := (hown.kept gc (by
            rcases hown.2 with ⟨hv, -⟩ | ⟨g, cap, cur, hv, hb, -⟩
            · rw [hv]; exact .inl rfl
            · rw [hv]; right; simp only [Value.ownBlock, ne_eq, Option.some.injEq]; omega)).alloc (.cells #[.string ⟨x.toArray⟩] 9)
          have sc1 := sc.alloc (.cells #[.string ⟨x.toArray⟩] 9)
          have hlt5 := hown2.lt
          have hgs := hg.size
          have hgs2 := gc.size
          have hjl2 := sc.le
          clear HE2 hz oc hown sb hmay
          go_wp2_with (at_builtin; refine wpList_append_own _ rfl _ _ 26 rfl w.heap.size 9 i0 (.string ⟨#[]⟩) 1 16 Tryz.underlying26 hi hz0 hz1 hz2 rfl (by decide) _ _ _ rfl hown2 ⟨wc.heap.size, 0, none⟩ 1 1 [.string ⟨x.toArray⟩] rfl rfl ?c1 ?c2 ?c3 ?c4 ?c5 ?_)
          case c1 =>
            intro j u hj
            match j, hj with
              | 0, hj => simp at hj; subst hj; simp [Addr.add]
          case c2 => intro u hu; simp at hu; rcases hu with rfl <;> rfl
          case c3 => unfold maxLen; omega
          case c4 => omega
          case c5 => simp; omega
          intro v' w3 hown' hgrow _
          have hg3 : w.grownBy w3 (some pb) := by
            have q := grown_alloc (grown_trans hg gc) (.cells #[.string ⟨x.toArray⟩] 9)
            refine ⟨hgrow.os.trans q.os, hgrow.tape.trans q.tape, hgrow.output.trans q.output, Nat.le_trans q.size hgrow.size, fun k hk hr => (hgrow.block k (Nat.lt_of_lt_of_le hk q.size) ?_).trans (q.block k hk hr)⟩
            intro e
            have := (hlt5 _ e.symm).1
            omega
          have sc3 : St w3 base pb v T en j2 := by
            have hpb : some pb ≠ _ := fun e => by have := (hlt5 _ e.symm).1; omega
            refine ⟨(hgrow.block pb sc1.heapLt hpb).trans sc1.blk, sc1.own.kept hgrow ?_, sc1.ne, sc1.le, sc1.few, sc1.six, sc1.gl.keep hgrow.size fun k hk => hgrow.block k (Nat.lt_of_lt_of_le hk sc1.gl.sz) (fun e => by have := (hlt5 _ e.symm).1; have := h.gl.sz; omega), sc1.toks⟩
            rcases h.own.2 with ⟨hv, -⟩ | ⟨g, cap, cur, hv, -, hgg, -⟩
            · rw [hv]; exact .inl rfl
            · right
              intro e
              rw [hv] at e
              have := (hlt5 g e.symm).1
              have := (Array.getElem?_eq_some_iff.1 hgg).1
              omega
          have R3 : w3.ownsRow w.heap.size 9 1 v' (acc ++ [x]).length ((acc ++ [x]).flatMap stC) := by
            rw [List.length_append, List.flatMap_append]
            have e1 : [x].flatMap stC = stC x := by simp
            rw [e1]; exact hown'
          have hat3 := sc3.at
          clear hown' hgrow hown2 hlt5 sc1 sc gc hg
          go_wp2
          go_roundw
          case rel => exact ⟨acc ++ [x], j2, f', R3, hg3, sc3, by omega, by simp; omega, HE3⟩
          case measure => rw [hat3, hat]; omega
      · simp only [hc, if_false, decide_false] at hmay
        have HE2 : Hid (listP T (nameP T) i = .ok acc j) := by
          show _ = _
          rw [HE.out]
          cases f with
          | zero => rfl
          | succ f => rw [listGo, if_neg hc]
        clear HE hc
        have hgb := fun (wb : World) (gb : wr.grownBy wb (some pb)) => hown.kept gb (by
          rcases hown.2 with ⟨hv, -⟩ | ⟨g, cap, cur, hv, hb, -⟩
          · rw [hv]; exact .inl rfl
          · rw [hv]; right; simp only [Value.ownBlock, ne_eq, Option.some.injEq]; omega)
        obtain ⟨ao, cap, hv⟩ := owns_slice hown
        subst hv
        clear hown
        go_wp2_with (go_at_call 141; refine hmay.mono ?_; rintro e wb ⟨rfl, gb, sb⟩)
        go_ret
        exact .mkOk (grown_trans hg gb) HE2.out (hgb _ gb) sb

end Go.Proofs.YtkpeklealgicpabGreatDoor

namespace Go.Proofs.YtkpeklealgicpabGreatDoor
open Go.RowKit

def repR {α : Type} (cf : α → List Value) (B : Nat) (w' : World) (u : Value) (l : List α) : Prop := RowAt B w' u l.length (l.flatMap cf)

set_option maxRecDepth 100000 in
set_option maxHeartbeats 1600000 in
theorem inBr_col {w : World} {base pb : Nat} {v : Value} {T : List Tk} {en : Int} {i : Nat} (h : St w base pb v T en i) :
    Calls Tryz.prog 143 #[.pointer (some ⟨pb, 0, none⟩), .func (.func 144) #[.pointer (some ⟨pb, 0, none⟩)] #[]] w fun e w' =>
      Out w base pb v T en (repR clC w.heap.size) (inBrP T (columnP T) i) e w' := by
  go_enter Tryz.func143, Tryz.ntmps143
  go_wp2_with fail
  refine (must_new h [[40]] 1 _ (by simp) _ (by rfl) (by rfl) (by decide) (by decide)).mono ?_
  intro e wa oa
  have ga := oa.grown
  cases hy : must T [[40]] i with
  | bad j =>
    obtain rfl := oa.bad j hy
    exact ⟨rfl, .mkBad ga (by rw [inBrP, hy]; rfl)⟩
  | ok x j =>
    obtain ⟨u, rfl, hu, sa⟩ := oa.ok x j hy
    have H1 : Hid (inBrP T (columnP T) i = (listP T (columnP T) j).then fun l j => (must T [[41]] j).then fun _ j => .ok l j) := by show _ = _; rw [inBrP, hy]; rfl
    clear hy oa
    go_wp2_with fail
    refine (list_col sa).mono ?_
    intro e wb ob
    have gb := grown_trans ga ob.grown
    cases hz : listP T (columnP T) j with
    | bad j2 =>
      obtain rfl := ob.bad j2 hz
      exact ⟨rfl, .mkBad gb (by rw [H1.out, hz]; rfl)⟩
    | ok l j2 =>
      obtain ⟨u, rfl, hr, sb⟩ := ob.ok l j2 hz
      have hr := row_of hr
      obtain ⟨ao, cap, rfl⟩ := hr.form
      have H2 : Hid (inBrP T (columnP T) i = (must T [[41]] j2).then fun _ j => .ok l j) := by show _ = _; rw [H1.out, hz]; rfl
      have hpa := sa.heapLt
      clear hz ob sa H1
      go_wp2_with fail
      refine (must_new sb [[41]] 1 _ (by simp) _ (by rfl) (by rfl) (by decide) (by decide)).mono ?_
      intro e wc oc
      have gc := grown_trans gb oc.grown
      have hr2 := (hr.grown hpa oc.grown).weak ga.size
      cases hw : must T [[41]] j2 with
      | bad j3 =>
        obtain rfl := oc.bad j3 hw
        exact ⟨rfl, .mkBad gc (by rw [H2.out, hw]; rfl)⟩
      | ok x3 j3 =>
        obtain ⟨u, rfl, hu, sc⟩ := oc.ok x3 j3 hw
        have H3 : Hid (inBrP T (columnP T) i = .ok l j3) := by show _ = _; rw [H2.out, hw]; rfl
        clear hw oc sb H2 hr
        go_wp2_with fail
        go_ret
        exact .mkOk gc H3.out hr2 sc

set_option maxRecDepth 100000 in
set_option maxHeartbeats 1600000 in
theorem inBr_val {w : World} {base pb : Nat} {v : Value} {T : List Tk} {en : Int} {i : Nat} (h : St w base pb v T en i) :
    Calls Tryz.prog 148 #[.pointer (some ⟨pb, 0, none⟩), .func (.func 146) #[.pointer (some ⟨pb, 0, none⟩)] #[]] w fun e w' =>
      Out w base pb v T en (repR vlC w.heap.size) (inBrP T (valueP T) i) e w' := by
  go_enter Tryz.func148, Tryz.ntmps148
  go_wp2_with fail
  refine (must_new h [[40]] 1 _ (by simp) _ (by rfl) (by rfl) (by decide) (by decide)).mono ?_
  intro e wa oa
  have ga := oa.grown
  cases hy : must T [[40]] i with
  | bad j =>
    obtain rfl := oa.bad j hy
    exact ⟨rfl, .mkBad ga (by rw [inBrP, hy]; rfl)⟩
  | ok x j =>
    obtain ⟨u, rfl, hu, sa⟩ := oa.ok x j hy
    have H1 : Hid (inBrP T (valueP T) i = (listP T (valueP T) j).then fun l j => (must T [[41]] j).then fun _ j => .ok l j) := by show _ = _; rw [inBrP, hy]; rfl
    clear hy oa
    go_wp2_with fail
    refine (list_val sa).mono ?_
    intro e wb ob
    have gb := grown_trans ga ob.grown
    cases hz : listP T (valueP T) j with
    | bad j2 =>
      obtain rfl := ob.bad j2 hz
      exact ⟨rfl, .mkBad gb (by rw [H1.out, hz]; rfl)⟩
    | ok l j2 =>
      obtain ⟨u, rfl, hr, sb⟩ := ob.ok l j2 hz
      have hr := row_of hr
      obtain ⟨ao, cap, rfl⟩ := hr.form
      have H2 : Hid (inBrP T (valueP T) i = (must T [[41]] j2).then fun _ j => .ok l j) := by show _ = _; rw [H1.out, hz]; rfl
      have hpa := sa.heapLt
      clear hz ob sa H1
      go_wp2_with fail
      refine (must_new sb [[41]] 1 _ (by simp) _ (by rfl) (by rfl) (by decide) (by decide)).mono ?_
      intro e wc oc
      have gc := grown_trans gb oc.grown
      have hr2 := (hr.grown hpa oc.grown).weak ga.size
      cases hw : must T [[41]] j2 with
      | bad j3 =>
        obtain rfl := oc.bad j3 hw
        exact ⟨rfl, .mkBad gc (by rw [H2.out, hw]; rfl)⟩
      | ok x3 j3 =>
        obtain ⟨u, rfl, hu, sc⟩ := oc.ok x3 j3 hw
        have H3 : Hid (inBrP T (valueP T) i = .ok l j3) := by show _ = _; rw [H2.out, hw]; rfl
        clear hw oc sb H2 hr
        go_wp2_with fail
        go_ret
        exact .mkOk gc H3.out hr2 sc

end Go.Proofs.YtkpeklealgicpabGreatDoor

namespace Go.Proofs.YtkpeklealgicpabGreatDoor
open Go.RowKit

theorem cells_of {W : World} {b : Nat} {cs : Array Value} {t : TypeId} (h : W.heap[b]? = some (.cells cs t)) : (∀ o, W.cell? ⟨b, o, none⟩ = cs[o]?) ∧ ∀ o, W.frozen? ⟨b, o, none⟩ = false :=
  ⟨fun o => Lib.cell_of_heap h o, fun o => Lib.frozen_of_heap h o⟩

/-- cells one behind the other -/
def putAll (W : World) (b : Nat) : Nat → List Value → World
  | _, [] => W
  | o, x :: xs => putAll (W.setCell ⟨b, o, none⟩ x) b (o + 1) xs

theorem putAll_size (b : Nat) : ∀ (xs : List Value) (W : World) (o : Nat), (putAll W b o xs).heap.size = W.heap.size := by
  intro xs
  induction xs with
  | nil => intro W o; rfl
  | cons x xs ih => intro W o; rw [putAll, ih]; simp [World.setCell]
theorem putAll_other (b : Nat) : ∀ (xs : List Value) (W : World) (o k : Nat), k ≠ b → (putAll W b o xs).heap[k]? = W.heap[k]? := by
  intro xs
  induction xs with
  | nil => intro W o k _; rfl
  | cons x xs ih => intro W o k hk; rw [putAll, ih _ _ _ hk]; exact heap_setCell_other W ⟨b, o, none⟩ k x hk
theorem putAll_misc (b : Nat) : ∀ (xs : List Value) (W : World) (o : Nat), (putAll W b o xs).os = W.os ∧ (putAll W b o xs).tape = W.tape ∧ (putAll W b o xs).output = W.output := by
  intro xs
  induction xs with
  | nil => intro W o; exact ⟨rfl, rfl, rfl⟩
  | cons x xs ih => intro W o; rw [putAll]; exact ih _ _
theorem putAll_grown (b : Nat) (xs : List Value) (W : World) (o : Nat) : W.grownBy (putAll W b o xs) (some b) :=
  ⟨(putAll_misc b xs W o).1, (putAll_misc b xs W o).2.1, (putAll_misc b xs W o).2.2, Nat.le_of_eq (putAll_size b xs W o).symm, fun k _ hk => putAll_other b xs W o k (by intro e; exact hk (by rw [e]))⟩
theorem putAll_go (b : Nat) (t : TypeId) : ∀ (xs : List Value) (W : World) (pre post : List Value), post.length = xs.length → W.heap[b]? = some (.cells (pre ++ post).toArray t) →
    (putAll W b pre.length xs).heap[b]? = some (.cells (pre ++ xs).toArray t) := by
  intro xs
  induction xs with
  | nil => intro W pre post hl h; cases post with
    | nil => exact h
    | cons _ _ => cases hl
  | cons x xs ih =>
    intro W pre post hl h
    cases post with
    | nil => cases hl
    | cons y post =>
      have h1 := heap_setCell_same W b pre.length _ t x h
      have e : (pre ++ y :: post).toArray.setIfInBounds pre.length x = ((pre ++ [x]) ++ post).toArray := by simp
      rw [e] at h1
      have := ih (W.setCell ⟨b, pre.length, none⟩ x) (pre ++ [x]) post (by simpa using hl) h1
      rw [putAll]
      simpa using this
theorem putAll_same {b : Nat} {t : TypeId} {W : World} {cs : List Value} (h : W.heap[b]? = some (.cells cs.toArray t)) (xs : List Value) (hl : cs.length = xs.length) : (putAll W b 0 xs).heap[b]? = some (.cells xs.toArray t) :=
  putAll_go b t xs W [] cs hl h

theorem St.putAll {w : World} {base pb : Nat} {v : Value} {T : List Tk} {en : Int} {i : Nat} (h : St w base pb v T en i) {b : Nat} (hb : b ≠ pb ∧ v.ownBlock ≠ some b ∧ 6 ≤ b) (o : Nat) (xs : List Value) : St (putAll w b o xs) base pb v T en i :=
  ⟨(putAll_other b xs w o pb (Ne.symm hb.1)).trans h.blk, h.own.kept (putAll_grown b xs w o) (.inr hb.2.1), h.ne, h.le, h.few, h.six, h.gl.grown hb.2.2 (putAll_grown b xs w o), h.toks⟩
theorem grown_putAll {w w' : World} {r : Option Nat} (h : w.grownBy w' r) {b : Nat} (hb : w.heap.size ≤ b) (o : Nat) (xs : List Value) : w.grownBy (putAll w' b o xs) r :=
  ⟨(putAll_misc b xs w' o).1.trans h.os, (putAll_misc b xs w' o).2.1.trans h.tape, (putAll_misc b xs w' o).2.2.trans h.output, Nat.le_trans h.size (Nat.le_of_eq (putAll_size b xs w' o).symm),
    fun k hk hr => (putAll_other b xs w' o k (by omega)).trans (h.block k hk hr)⟩
theorem RowAt.putAll {B : Nat} {w : World} {u : Value} {n : Nat} {xs : List Value} (h : RowAt B w u n xs) {b : Nat} (hb : b < B) (o : Nat) (ys : List Value) : RowAt B (putAll w b o ys) u n xs :=
  h.keep (Nat.le_of_eq (putAll_size b ys w o).symm) fun c hc _ => putAll_other b ys w o c (by omega)
theorem ExAt.putAll {B : Nat} {w : World} {u : Value} {x : Ex} (h : ExAt B w u x) {b : Nat} (hb : b < B) (o : Nat) (ys : List Value) : ExAt B (putAll w b o ys) u x :=
  h.keep (Nat.le_of_eq (putAll_size b ys w o).symm) fun c hc _ => putAll_other b ys w o c (by omega)

def Ex.k : Ex → Int | .mk k _ _ _ => k
def Ex.v : Ex → Vl | .mk _ v _ _ => v
def Ex.nm : Ex → List UInt8 | .mk _ _ n _ => n

/-- a command's cells; cv, vv, fv: its lists; ea, wa: the Args of its two expressions -/
def cmL (c : Cm) (cv vv fv ea wa : Value) : List Value :=
  [.int .i64 c.kind, .string ⟨c.name.toArray⟩, .string ⟨c.other.toArray⟩, .string ⟨c.column.toArray⟩, cv, .int .i64 c.ty, .int .i64 c.val.k, .int .i64 c.val.n, .string ⟨c.val.s.toArray⟩, vv, fv,
   .int .i64 c.expr.k, .int .i64 c.expr.v.k, .int .i64 c.expr.v.n, .string ⟨c.expr.v.s.toArray⟩, .string ⟨c.expr.nm.toArray⟩, ea, .bool c.all,
   .int .i64 c.wh.k, .int .i64 c.wh.v.k, .int .i64 c.wh.v.n, .string ⟨c.wh.v.s.toArray⟩, .string ⟨c.wh.nm.toArray⟩, wa, .string ⟨c.order.toArray⟩, .int .i64 c.limit]

structure CmIn (B : Nat) (w : World) (c : Cm) (cv vv fv ea wa : Value) : Prop where
  cols : RowAt B w cv c.cols.length (c.cols.flatMap clC)
  vals : RowAt B w vv c.vals.length (c.vals.flatMap vlC)
  fields : RowAt B w fv c.fields.length (c.fields.flatMap stC)
  expr : ExAt B w (exV c.expr.k c.expr.v c.expr.nm ea) c.expr
  wh : ExAt B w (exV c.wh.k c.wh.v c.wh.nm wa) c.wh

theorem CmIn.keep {B : Nat} {w w' : World} {c : Cm} {cv vv fv ea wa : Value} (h : CmIn B w c cv vv fv ea wa) (hs : w.heap.size ≤ w'.heap.size) (hk : ∀ b, B ≤ b → b < w.heap.size → w'.heap[b]? = w.heap[b]?) : CmIn B w' c cv vv fv ea wa :=
  ⟨h.cols.keep hs hk, h.vals.keep hs hk, h.fields.keep hs hk, h.expr.keep hs hk, h.wh.keep hs hk⟩
theorem CmIn.grown {B pb : Nat} {w w' : World} {c : Cm} {cv vv fv ea wa : Value} (h : CmIn B w c cv vv fv ea wa) (hp : pb < B) (hg : w.grownBy w' (some pb)) : CmIn B w' c cv vv fv ea wa :=
  h.keep hg.size fun b hB hs => hg.block b hs (by simp only [ne_eq, Option.some.injEq]; omega)
theorem CmIn.put {B : Nat} {w : World} {c : Cm} {cv vv fv ea wa : Value} (h : CmIn B w c cv vv fv ea wa) {b : Nat} (hb : b < B) (o : Nat) (y : Value) : CmIn B (w.setCell ⟨b, o, none⟩ y) c cv vv fv ea wa :=
  h.keep (by simp [World.setCell]) fun c hc _ => heap_setCell_other w _ c y (by simp only; omega)
theorem CmIn.alloc {B : Nat} {w : World} {c : Cm} {cv vv fv ea wa : Value} (h : CmIn B w c cv vv fv ea wa) (o : Obj) : CmIn B (w.alloc o) c cv vv fv ea wa :=
  h.keep (by simp) fun b _ hs => ((Below.refl w.heap.size w).alloc (Nat.le_refl _) o).block b hs
theorem CmIn.under {B : Nat} {w w' : World} {c : Cm} {cv vv fv ea wa : Value} (h : CmIn B w c cv vv fv ea wa) (hb : Below w.heap.size w w') : CmIn B w' c cv vv fv ea wa :=
  h.keep hb.size fun b _ hs => hb.block b hs
theorem CmIn.putAll {B : Nat} {w : World} {c : Cm} {cv vv fv ea wa : Value} (h : CmIn B w c cv vv fv ea wa) {b : Nat} (hb : b < B) (o : Nat) (ys : List Value) : CmIn B (putAll w b o ys) c cv vv fv ea wa :=
  h.keep (Nat.le_of_eq (putAll_size b ys w o).symm) fun c hc _ => putAll_other b ys w o c (by omega)
theorem CmIn.weak {B B' : Nat} {w : World} {c : Cm} {cv vv fv ea wa : Value} (h : CmIn B w c cv vv fv ea wa) (hB : B' ≤ B) : CmIn B' w c cv vv fv ea wa :=
  ⟨h.cols.weak hB, h.vals.weak hB, h.fields.weak hB, h.expr.weak hB, h.wh.weak hB⟩

/-- a command's value -/
def CmAt (B : Nat) (w : World) (u : Value) (c : Cm) : Prop :=
  ∃ cv vv fv ea wa, u = .agg (cmL c cv vv fv ea wa).toArray ∧ CmIn B w c cv vv fv ea wa
def repM (B : Nat) (w : World) (u : Value) (c : Cm) : Prop := CmAt B w u c

end Go.Proofs.YtkpeklealgicpabGreatDoor

namespace Go.Proofs.YtkpeklealgicpabGreatDoor
open Go.RowKit

theorem setCells_putAll (b : Nat) : ∀ (vs : List Value) (w : World) (o : Nat), w.setCells b o vs = putAll w b o vs := by
  intro vs
  induction vs with
  | nil => intro w o; rfl
  | cons x vs ih => intro w o; rw [World.setCells, putAll, ih]

theorem putAll_mid {b : Nat} {t : TypeId} : ∀ (xs mid : List Value) (W : World) (pre post : List Value), mid.length = xs.length → W.heap[b]? = some (.cells (pre ++ mid ++ post).toArray t) →
    (putAll W b pre.length xs).heap[b]? = some (.cells (pre ++ xs ++ post).toArray t) := by
  intro xs
  induction xs with
  | nil => intro mid W pre post hl h; cases mid with
    | nil => exact h
    | cons _ _ => cases hl
  | cons x xs ih =>
    intro mid W pre post hl h
    cases mid with
    | nil => cases hl
    | cons y mid =>
      have h1 := heap_setCell_same W b pre.length _ t x h
      have e : (pre ++ y :: mid ++ post).toArray.setIfInBounds pre.length x = ((pre ++ [x]) ++ mid ++ post).toArray := by simp
      rw [e] at h1
      have := ih mid (W.setCell ⟨b, pre.length, none⟩ x) (pre ++ [x]) post (by simpa using hl) h1
      rw [putAll]
      simpa using this

theorem there_of {w : World} {b : Nat} {cs : List Value} {t : TypeId} (hb : w.heap[b]? = some (.cells cs.toArray t)) (o n : Nat) (hn : o + n ≤ cs.length) : w.there b o n := by
  intro j hj
  refine ⟨?_, Lib.frozen_of_heap hb _⟩
  rw [Lib.cell_of_heap hb]
  have : cs.toArray[o + j]? = some (cs[o + j]'(by omega)) := by simp [List.getElem?_eq_getElem (show o + j < cs.length by omega)]
  rw [this]; rfl

section
variable {P : Program} {ops : Array Oper} {rest : List Oper} {op : Oper} {a : Act} {w : World} {Q : Exit → Act → World → Prop}

/-- a struct into the middle of a block; the world behind it a letter -/
theorem wpList_store_part (ty : TypeId) (x y : Operand) (hgd : op.guard = none) (ho : op.op = .store ty x y) (b : Nat) (pre mid post xs : List Value) (t : TypeId)
    (hx : a.eval x = .pointer (some ⟨b, pre.length, none⟩)) (hy : a.eval y = .agg xs.toArray) (hb : w.heap[b]? = some (.cells (pre ++ mid ++ post).toArray t)) (hl : mid.length = xs.length)
    (hi : (P.info? ty).map (·.size) = some xs.length) (h1 : ∀ v ∈ xs, v.oneCell' = true)
    (h : ∀ w', w'.heap[b]? = some (.cells (pre ++ xs ++ post).toArray t) → Hid (w' = putAll w b pre.length xs) → wpList P ops Q rest (a.put op.dst undef) w') : wpList P ops Q (op :: rest) a w := by
  refine wpList_store_mid hgd ty x y ho b pre.length xs.toArray hx hy (there_of hb _ _ (by simp; omega)) (by simpa using hi) (all_oneCell_toArray h1) ?_
  have e : w.setCells b pre.length xs.toArray.toList = putAll w b pre.length xs := by simpa using setCells_putAll b xs w pre.length
  rw [e]
  exact h _ (putAll_mid xs mid w pre post hl hb) (hide rfl)

/-- a struct into a whole block -/
theorem wpList_store_whole (ty : TypeId) (x y : Operand) (hgd : op.guard = none) (ho : op.op = .store ty x y) (b : Nat) (cs xs : List Value) (t : TypeId)
    (hx : a.eval x = .pointer (some ⟨b, 0, none⟩)) (hy : a.eval y = .agg xs.toArray) (hb : w.heap[b]? = some (.cells cs.toArray t)) (hl : cs.length = xs.length)
    (hi : (P.info? ty).map (·.size) = some xs.length) (h1 : ∀ v ∈ xs, v.oneCell' = true)
    (h : ∀ w', w'.heap[b]? = some (.cells xs.toArray t) → Hid (w' = putAll w b 0 xs) → wpList P ops Q rest (a.put op.dst undef) w') : wpList P ops Q (op :: rest) a w := by
  refine wpList_store_part ty x y hgd ho b [] cs [] xs t hx hy (by simpa using hb) hl hi h1 fun w' hw hp => h w' (by simpa using hw) hp

/-- a whole block, as a struct -/
theorem wpList_load_whole (ty : TypeId) (x : Operand) (hgd : op.guard = none) (ho : op.op = .load ty x) (b : Nat) (cs : List Value) (t : TypeId) (d : TypeDesc)
    (hx : a.eval x = .pointer (some ⟨b, 0, none⟩)) (hb : w.heap[b]? = some (.cells cs.toArray t)) (hu : P.underlying ty = some d) (hd : d.isRow = true) (hi : (P.info? ty).map (·.size) = some cs.length)
    (h : wpList P ops Q rest (a.put op.dst (.agg cs.toArray)) w) : wpList P ops Q (op :: rest) a w :=
  wpList_load_mid hgd ty x ho b 0 hx cs d (fun j v hv => by rw [Nat.zero_add, Lib.cell_of_heap hb]; simpa using hv) hu hd hi h

/-- a new variable: its block and the world behind it letters -/
theorem wpList_alloc_blk (slot : Nat) (ty : TypeId) (zs : List Value) (hd : op.dst = some slot) (hgd : op.guard = none) (ho : op.op = .alloc ty) (hz : ∀ w, (Instr.alloc ty true (.tuple #[])).run P w = .ok (.pointer (some ⟨w.heap.size, 0, none⟩)) (w.alloc (.cells zs.toArray ty)))
    (h : ∀ w' b, Hid (b = w.heap.size) → w'.heap[b]? = some (.cells zs.toArray ty) → Below w.heap.size w w' → wpList P ops Q rest (a.put (some slot) (.pointer (some ⟨b, 0, none⟩))) w') : wpList P ops Q (op :: rest) a w := by
  refine wpList_plain hgd fun K hK => ?_
  rw [← hd] at h
  unfold Oper.wp execOp
  simp only [ho, hz, Result.andThen_ok, Sem.run_bind]
  exact hK _ _ (h _ _ (hide rfl) (heap_alloc_new _ _) ((Below.refl _ _).alloc (Nat.le_refl _) _))
end

theorem results_whole {P : Program} {fn : Func} {s : Tmp} {ty : TypeId} (hr : fn.results = #[.cell s ty]) (tmps : Array Value) (w : World) (b : Nat) (cs : List Value) (t : TypeId) (d : TypeDesc) (hs : tmps.getD s undef = .pointer (some ⟨b, 0, none⟩))
    (hb : w.heap[b]? = some (.cells cs.toArray t)) (hu : P.underlying ty = some d) (hd : d.isRow = true) (hi : (P.info? ty).map (·.size) = some cs.length) :
    (results fn tmps).run P w = .ok (.agg cs.toArray) w := by
  have h := run_loadVar_mid (P := P) w b 0 ty cs d (fun j v hv => by rw [Nat.zero_add, Lib.cell_of_heap hb]; simpa using hv) hu hd hi
  have hs' : tmps[s]?.getD undef = .pointer (some ⟨b, 0, none⟩) := by simpa using hs
  simp [results, hr, hs', asAddr, h]

theorem Tryz.size31 : (Tryz.prog.info? 31).map (·.size) = some 26 := by kernel_rfl
theorem Tryz.size29 : (Tryz.prog.info? 29).map (·.size) = some 6 := by kernel_rfl
theorem Tryz.size24 : (Tryz.prog.info? 24).map (·.size) = some 3 := by kernel_rfl
theorem Tryz.desc31 : ∃ d : TypeDesc, Tryz.prog.underlying 31 = some d ∧ d.isRow = true := ⟨_, Tryz.underlying31, rfl⟩
theorem Tryz.desc29 : ∃ d : TypeDesc, Tryz.prog.underlying 29 = some d ∧ d.isRow = true := ⟨_, Tryz.underlying29, rfl⟩

theorem RowAt.one {B : Nat} {w : World} {u : Value} {n : Nat} {xs : List Value} (h : RowAt B w u n xs) : u.oneCell' = true := by
  obtain ⟨ao, cap, rfl⟩ := h.form; rfl
theorem ExAt.one {B : Nat} {w : World} {k : Int} {x : Vl} {nm : List UInt8} {a : Value} {y : Ex} (h : ExAt B w (exV k x nm a) y) : a.oneCell' = true := by
  obtain ⟨k', x', nm', ao, n, cap, e⟩ := h.form
  simp only [exV, Value.agg.injEq, Array.mk.injEq, List.cons.injEq] at e
  rw [e.2.2.2.2.2.1]; rfl
theorem ExAt.parts {B : Nat} {w : World} {k : Int} {x : Vl} {nm : List UInt8} {a : Value} {y : Ex} (h : ExAt B w (exV k x nm a) y) : k = y.k ∧ x = y.v ∧ nm = y.nm := by
  have go : ∀ (u : Value), ExAt B w u y → u = exV k x nm a → k = y.k ∧ x = y.v ∧ nm = y.nm := by
    intro u hu e
    cases hu with
    | nil k' x' nm' ao cap _ =>
      obtain ⟨xk, xn, xs⟩ := x
      obtain ⟨xk', xn', xs'⟩ := x'
      simp only [exV, Value.agg.injEq, Array.mk.injEq, List.cons.injEq, Value.int.injEq, Value.string.injEq, ByteArray.mk.injEq, true_and] at e
      simp [Ex.k, Ex.v, Ex.nm, ← e.1, ← e.2.1, ← e.2.2.1, ← e.2.2.2.1, ← e.2.2.2.2.1]
    | args k' x' nm' b off cap xs' us =>
      obtain ⟨xk, xn, xs⟩ := x
      obtain ⟨xk', xn', xs''⟩ := x'
      simp only [exV, Value.agg.injEq, Array.mk.injEq, List.cons.injEq, Value.int.injEq, Value.string.injEq, ByteArray.mk.injEq, true_and] at e
      simp [Ex.k, Ex.v, Ex.nm, ← e.1, ← e.2.1, ← e.2.2.1, ← e.2.2.2.1, ← e.2.2.2.2.1]
  exact go _ h rfl
theorem CmIn.one {B : Nat} {w : World} {c : Cm} {cv vv fv ea wa : Value} (h : CmIn B w c cv vv fv ea wa) : ∀ v ∈ cmL c cv vv fv ea wa, v.oneCell' = true := by
  have h1 := h.cols.one
  have h2 := h.vals.one
  have h3 := h.fields.one
  have h4 := h.expr.one
  have h5 := h.wh.one
  intro v hv
  simp only [cmL, List.mem_cons, List.not_mem_nil, or_false] at hv
  rcases hv with rfl | rfl | rfl | rfl | rfl | rfl | rfl | rfl | rfl | rfl | rfl | rfl | rfl | rfl | rfl | rfl | rfl | rfl | rfl | rfl | rfl | rfl | rfl | rfl | rfl | rfl <;> first | rfl | assumption

theorem cmIn0 (B : Nat) (w : World) (c : Cm) (h1 : c.cols = []) (h2 : c.vals = []) (h3 : c.fields = []) (h4 : c.expr = ex0) (h5 : c.wh = ex0) : CmIn B w c (.slice none 0 0) (.slice none 0 0) (.slice none 0 0) (.slice none 0 0) (.slice none 0 0) := by
  refine ⟨?_, ?_, ?_, ?_, ?_⟩
  · rw [h1]; exact .nil _ _ _
  · rw [h2]; exact .nil _ _ _
  · rw [h3]; exact .nil _ _ _
  · rw [h4]; exact .nil _ _ _ _ _ (fun _ => rfl)
  · rw [h5]; exact .nil _ _ _ _ _ (fun _ => rfl)

theorem zeroIs31 : (#[.int .i64 0, .string ⟨#[]⟩, .string ⟨#[]⟩, .string ⟨#[]⟩, .slice none 0 0, .int .i64 0, .int .i64 0, .int .i64 0, .string ⟨#[]⟩, .slice none 0 0, .slice none 0 0, .int .i64 0, .int .i64 0, .int .i64 0, .string ⟨#[]⟩, .string ⟨#[]⟩, .slice none 0 0, .bool false, .int .i64 0, .int .i64 0, .int .i64 0, .string ⟨#[]⟩, .string ⟨#[]⟩, .slice none 0 0, .string ⟨#[]⟩, .int .i64 0] : Array Value) = (cmL cm0 (.slice none 0 0) (.slice none 0 0) (.slice none 0 0) (.slice none 0 0) (.slice none 0 0)).toArray := rfl
theorem Tryz.alloc31 (w : World) : (Instr.alloc 31 true (.tuple #[])).run Tryz.prog w = .ok (.pointer (some ⟨w.heap.size, 0, none⟩)) (w.alloc (.cells (cmL cm0 (.slice none 0 0) (.slice none 0 0) (.slice none 0 0) (.slice none 0 0) (.slice none 0 0)).toArray 31)) := by
  rw [← zeroIs31]
  simp [Instr.alloc, Tryz.zeroValue31, go_sem]

end Go.Proofs.YtkpeklealgicpabGreatDoor
