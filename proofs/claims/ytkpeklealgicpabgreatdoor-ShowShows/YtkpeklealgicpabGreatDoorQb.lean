/-
  Commands without memory: what the words of package words say, what the parser of package command answers on tokens, what Check answers.
  What the library's package-level variables hold, as far as this program reads them; strconv's two calls.
  The parser of package command in memory; its next token.
  'giveUp', 'may', 'must', 'oneOf' of the parser.
  Package words.
  'column' and 'value' of the parser.
  'expr' and 'bracketed' of the parser: expressions in memory.
  'listed' and 'inBrackets' of the parser.
  Commands in memory.
  A whole command out of and into memory, in one step each.
  'parse' of package command: what gives up is caught.
  'isType', 'isValue', 'argsOf', and 'all' at its four kinds.
  'isNone' of package command.
-/
import Derived.Deep.MidRow
import Derived.Defers
import Derived.Recover
import Derived.Test.YtkpeklealgicpabGreatDoorQa

set_option maxRecDepth 100000
set_option maxHeartbeats 8000000
namespace Go.Proofs.YtkpeklealgicpabGreatDoor
open Go.RowKit
structure Vl where
 k:Int
 n:Int
 s:List UInt8
inductive Ex where
 | mk (k:Int) (v:Vl) (name:List UInt8) (args:List Ex)
structure Cl where
 name:List UInt8
 ty:Int
structure Cm where
 kind:Int
 name:List UInt8
 other:List UInt8
 column:List UInt8
 cols:List Cl
 ty:Int
 val:Vl
 vals:List Vl
 fields:List (List UInt8)
 expr:Ex
 all:Bool
 wh:Ex
 order:List UInt8
 limit:Int
def vl0:Vl:=⟨0,0,[]⟩
def ex0:Ex:=.mk 0 vl0 [] []
def cm0:Cm:=⟨0,[],[],[],[],0,vl0,[],[],ex0,false,ex0,[],0⟩
abbrev w_create:List UInt8:=[99,114,101,97,116,101]
abbrev w_table:List UInt8:=[116,97,98,108,101]
abbrev w_drop:List UInt8:=[100,114,111,112]
abbrev w_alter:List UInt8:=[97,108,116,101,114]
abbrev w_add:List UInt8:=[97,100,100]
abbrev w_default:List UInt8:=[100,101,102,97,117,108,116]
abbrev w_rename:List UInt8:=[114,101,110,97,109,101]
abbrev w_to:List UInt8:=[116,111]
abbrev w_retype:List UInt8:=[114,101,116,121,112,101]
abbrev w_index:List UInt8:=[105,110,100,101,120]
abbrev w_on:List UInt8:=[111,110]
abbrev w_insert:List UInt8:=[105,110,115,101,114,116]
abbrev w_into:List UInt8:=[105,110,116,111]
abbrev w_values:List UInt8:=[118,97,108,117,101,115]
abbrev w_delete:List UInt8:=[100,101,108,101,116,101]
abbrev w_from:List UInt8:=[102,114,111,109]
abbrev w_where:List UInt8:=[119,104,101,114,101]
abbrev w_update:List UInt8:=[117,112,100,97,116,101]
abbrev w_set:List UInt8:=[115,101,116]
abbrev w_select:List UInt8:=[115,101,108,101,99,116]
abbrev w_order:List UInt8:=[111,114,100,101,114]
abbrev w_by:List UInt8:=[98,121]
abbrev w_limit:List UInt8:=[108,105,109,105,116]
abbrev w_begin:List UInt8:=[98,101,103,105,110]
abbrev w_commit:List UInt8:=[99,111,109,109,105,116]
abbrev w_rollback:List UInt8:=[114,111,108,108,98,97,99,107]
abbrev yq1:List UInt8:=[105,110,116]
abbrev ymQ:List UInt8:=[116,101,120,116]
abbrev ymP:List UInt8:=[98,111,111,108]
abbrev ycD:List UInt8:=[116,114,117,101]
abbrev yce:List UInt8:=[102,97,108,115,101]
abbrev w_null:List UInt8:=[110,117,108,108]
abbrev w_not:List UInt8:=[110,111,116]
abbrev w_is:List UInt8:=[105,115]
abbrev ymO:List UInt8:=[97,110,100]
abbrev ysX:List UInt8:=[111,114]
def takenL:List (List UInt8):=[w_create,w_table,w_drop,w_alter,w_add,w_default,w_rename,w_to,w_retype,w_index,w_on,w_insert,w_into,w_values,w_delete,w_from,w_where,w_update,w_set,w_select,w_order,w_by,w_limit,w_begin,w_commit,w_rollback,yq1,ymQ,ymP,ycD,yce,w_null,w_not,w_is,ymO,ysX]
def yaB:List (List UInt8):=[[],yq1,ymQ,ymP]
def ya3:List (List UInt8):=[[],[],[],[],[],ymO,ysX,[43],[45],[124,124],[60],[61]]
def yan (s:List UInt8):Bool:=ya5 1 s&&!takenL.contains s
def yfy (l:List (List UInt8)) (s:List UInt8):Nat:=(l.idxOf? s).getD 0
def atL (l:List (List UInt8)) (k:Int):List UInt8:=if k < 0 then [] else l.getD k.toNat []
inductive Rs (α:Type) where
 | ok (a:α) (i:Nat)
 | bad (i:Nat)
def Rs.then {α β:Type} (r:Rs α) (f:α→Nat→Rs β):Rs β :=
 match r with
 | .ok a i=>f a i
 | .bad i=>.bad i
@[simp] theorem Rs.then_ok {α β:Type} (a:α) (i:Nat) (f:α→Nat→Rs β):(Rs.ok a i).then f=f a i:=rfl
@[simp] theorem Rs.then_bad {α β:Type} (i:Nat) (f:α→Nat→Rs β):(Rs.bad i:Rs α).then f=.bad i:=rfl
def tx (T:List Tk) (i:Nat):List UInt8:=match T[i]? with|some t=>t.t|none=>[]
def kd (T:List Tk) (i:Nat):Int:=match T[i]? with|some t=>t.k|none=>0
def pl (T:List Tk) (en:Int) (i:Nat):Int:=match T[i]? with|some t=>t.a|none=>en
def ygl (T:List Tk):List (List UInt8)→Nat→Rs Unit
 | [],i=>.ok () i
 | w::ws,i=>if tx T i=w then ygl T ws (i+1) else .bad i
def may (T:List Tk) (first:List UInt8) (others:List (List UInt8)) (i:Nat):Rs Bool :=
 if tx T i=first then (ygl T others (i+1)).then fun _ j=>.ok true j else .ok false i
def yjG (T:List Tk):List (List UInt8)→Nat→Rs (List UInt8)
 | [],i=>.bad i
 | w::ws,i=>if tx T i=w then .ok w (i+1) else yjG T ws i
def ypb (T:List Tk) (f:List UInt8→Nat) (i:Nat):Rs Nat:=if f (tx T i)=0 then .bad i else .ok (f (tx T i)) (i+1)
def ycA (T:List Tk) (i:Nat):Rs (List UInt8):=if yan (tx T i)=true then .ok (tx T i) (i+1) else .bad i
def yi1 (l:List UInt8):Nat:=l.foldl (fun n c=>10*n+(c.toNat - 48)) 0
def yhN (T:List Tk) (least:Nat) (i:Nat):Rs Nat:=if kd T i=2∧least≤yi1 (tx T i) then .ok (yi1 (tx T i)) (i+1) else .bad i
def yfN (T:List Tk) (i:Nat):Rs Cl:=(ycA T i).then fun s j=>(ypb T (yfy yaB) j).then fun k j=>.ok ⟨s,(k:Nat)⟩ j
def yg8 (T:List Tk) (i:Nat):Rs Vl :=
 if kd T i=2 then (yhN T 0 i).then fun n j=>.ok ⟨1,(n:Nat),[]⟩ j
 else if kd T i=3 then .ok ⟨2,0,((tx T i).drop 1).take ((tx T i).length - 2)⟩ (i+1)
 else (yjG T [[45],ycD,yce,w_null] i).then fun s j =>
  if s=[45] then (yhN T 1 j).then fun n j=>.ok ⟨1,-(n:Nat),[]⟩ j
  else if s=ycD then .ok ⟨3,1,[]⟩ j
  else if s=yce then .ok ⟨3,0,[]⟩ j
  else .ok vl0 j
def yob (T:List Tk) (i:Nat):Rs Ex :=
 if yan (tx T i)=true then .ok (.mk 2 vl0 (tx T i) []) (i+1)
 else (yg8 T i).then fun v j=>.ok (.mk 1 v [] []) j
def yo2 (T:List Tk) (ex:Nat→Rs Ex) (i:Nat):Rs Ex :=
 (ex i).then fun a j=>(may T w_is [w_null,[41]] j).then fun b j =>
  if b=true then .ok (.mk 4 vl0 [] [a]) j
  else (ypb T (yfy ya3) j).then fun k j=>(ex j).then fun b j=>(ygl T [[41]] j).then fun _ j=>.ok (.mk (k:Nat) vl0 [] [a,b]) j
def yi7 (T:List Tk):Nat→Nat→Rs Ex
 | 0,i=>yob T i
 | f+1,i =>
  if tx T i=w_not then (yi7 T f (i+1)).then fun a j=>.ok (.mk 3 vl0 [] [a]) j
  else if tx T i=[40] then yo2 T (yi7 T f) (i+1)
  else yob T i
def yfu {α:Type} (T:List Tk) (one:Nat→Rs α):Nat→List α→Nat→Rs (List α)
 | 0,l,i=>.ok l i
 | f+1,l,i=>if tx T i=[44] then (one (i+1)).then fun x j=>yfu T one f (l++[x]) j else .ok l i
def yqv {α:Type} (T:List Tk) (one:Nat→Rs α) (i:Nat):Rs (List α):=(one i).then fun x j=>yfu T one (T.length+1) [x] j
def yqm {α:Type} (T:List Tk) (one:Nat→Rs α) (i:Nat):Rs (List α) :=
 (ygl T [[40]] i).then fun _ j=>(yqv T one j).then fun l j=>(ygl T [[41]] j).then fun _ j=>.ok l j
def yiQ (T:List Tk) (c:Cm) (i:Nat):Rs Cm :=
 (may T w_where [] i).then fun b j=>if b=true then (yi7 T 60 j).then fun e j=>.ok { c with all:=false,wh:=e } j else .ok { c with all:=true } j
def ykz (T:List Tk) (i:Nat):Rs Cm :=
 (yjG T [w_table,w_index] i).then fun s j =>
  if s=w_table then (ycA T j).then fun n j=>(yqm T (yfN T) j).then fun l j=>.ok { cm0 with kind:=1,name:=n,cols:=l } j
  else (ycA T j).then fun n j=>(ygl T [w_on] j).then fun _ j=>(ycA T j).then fun o j=>(ygl T [[40]] j).then fun _ j=>(ycA T j).then fun c j=>(ygl T [[41]] j).then fun _ j =>
   .ok { cm0 with kind:=8,name:=n,other:=o,column:=c } j
def yrw (T:List Tk) (i:Nat):Rs Cm :=
 (yjG T [w_table,w_index] i).then fun s j=>(ycA T j).then fun n j=>.ok { cm0 with kind:=if s=w_index then 9 else 2,name:=n } j
def ymb (T:List Tk) (c:Cm) (i:Nat):Rs Cm :=
 (may T w_to [] i).then fun b j =>
  if b=true then (ycA T j).then fun o j=>.ok { c with kind:=7,other:=o } j
  else (ycA T j).then fun l j=>(ygl T [w_to] j).then fun _ j=>(ycA T j).then fun o j=>.ok { c with kind:=5,column:=l,other:=o } j
def yoZ (T:List Tk) (i:Nat):Rs Cm :=
 (ygl T [w_table] i).then fun _ j=>(ycA T j).then fun n j=>(yjG T [w_add,w_drop,w_rename,w_retype] j).then fun s j =>
  if s=w_add then (yfN T j).then fun c j=>(ygl T [w_default] j).then fun _ j=>(yg8 T j).then fun v j=>.ok { cm0 with kind:=3,name:=n,column:=c.name,ty:=c.ty,val:=v } j
  else if s=w_drop then (ycA T j).then fun c j=>.ok { cm0 with kind:=4,name:=n,column:=c } j
  else if s=w_rename then ymb T { cm0 with name:=n } j
  else (yfN T j).then fun c j=>.ok { cm0 with kind:=6,name:=n,column:=c.name,ty:=c.ty } j
def ylh (T:List Tk) (i:Nat):Rs Cm :=
 (ygl T [w_into] i).then fun _ j=>(ycA T j).then fun n j=>(ygl T [w_values] j).then fun _ j=>(yqm T (yg8 T) j).then fun l j=>.ok { cm0 with kind:=10,name:=n,vals:=l } j
def ykC (T:List Tk) (i:Nat):Rs Cm :=
 (ygl T [w_from] i).then fun _ j=>(ycA T j).then fun n j=>yiQ T { cm0 with kind:=11,name:=n } j
def ymM (T:List Tk) (i:Nat):Rs Cm :=
 (ycA T i).then fun n j=>(ygl T [w_set] j).then fun _ j=>(ycA T j).then fun c j=>(ygl T [[61]] j).then fun _ j=>(yi7 T 60 j).then fun e j =>
  yiQ T { cm0 with kind:=12,name:=n,column:=c,expr:=e } j
def ykK (T:List Tk) (i:Nat):Rs (List (List UInt8)) :=
 (may T [42] [] i).then fun b j=>if b=true then .ok [] j else yqv T (ycA T) j
def ypf (T:List Tk) (c:Cm) (i:Nat):Rs Cm :=
 (may T w_order [w_by] i).then fun b j=>if b=true then (ycA T j).then fun o j=>.ok { c with order:=o } j else .ok c j
def ypc (T:List Tk) (c:Cm) (i:Nat):Rs Cm :=
 (may T w_limit [] i).then fun b j=>if b=true then (yhN T 0 j).then fun n j=>.ok { c with limit:=(n:Nat) } j else .ok c j
def ykw (T:List Tk) (i:Nat):Rs Cm :=
 (ykK T i).then fun l j=>(ygl T [w_from] j).then fun _ j=>(ycA T j).then fun n j =>
  (yiQ T { cm0 with kind:=13,limit:=-1,fields:=l,name:=n } j).then fun c j=>(ypf T c j).then fun c j=>ypc T c j
def yrz:List (List UInt8):=[w_create,w_drop,w_alter,w_insert,w_delete,w_update,w_select,w_begin,w_commit,w_rollback]
def yik (T:List Tk) (i:Nat):Rs Cm :=
 (yjG T yrz i).then fun s j =>
  if s=w_create then ykz T j else if s=w_drop then yrw T j else if s=w_alter then yoZ T j else if s=w_insert then ylh T j
  else if s=w_delete then ykC T j else if s=w_update then ymM T j else if s=w_select then ykw T j
  else if s=w_begin then .ok { cm0 with kind:=14 } j else if s=w_commit then .ok { cm0 with kind:=15 } j else .ok { cm0 with kind:=16 } j
def yiR (T:List Tk):Rs Cm:=(yik T 0).then fun c j=>if j < T.length then .bad j else .ok c j
theorem yeV {P:Program} {W W':World} {n:String} {cs:Array Value} {g:Nat} (hg:P.globalNamed n=some g) (hk:W'.heap[g]?=W.heap[g]?) (hv:W.var? P n=some cs):W'.var? P n=some cs:=by
 unfold World.var? at hv ⊢
 rw [hg] at hv ⊢
 simp only [Option.bind_some] at hv ⊢
 rw [hk];exact hv
theorem Tryz.gPow:Tryz.prog.globalNamed "internal/strconv.uint64pow10" = some 1:=by kernel_rfl
theorem Tryz.gES:Tryz.prog.globalNamed "strconv.ErrSyntax" = some 2:=by kernel_rfl
theorem Tryz.gER:Tryz.prog.globalNamed "strconv.ErrRange" = some 3:=by kernel_rfl
structure LaidIf (EP:Prop) (w:World):Prop where
 tab:Lib.TabIs Tryz.prog w "internal/strconv.uint64pow10" .u64 Lib.pow10Tab
 es:EP→∃ tp p,w.var? Tryz.prog "strconv.ErrSyntax" = some #[.iface tp p]
 er:EP→∃ tp p,w.var? Tryz.prog "strconv.ErrRange" = some #[.iface tp p]
 ml:∃ m,w.cell? ⟨0,0,none⟩=some (.int .i64 m)
 sz:6≤w.heap.size
theorem LaidIf.keep {EP:Prop} {w w':World} (h:LaidIf EP w) (hs:w.heap.size≤w'.heap.size) (hk:∀ k,k < 6→w'.heap[k]?=w.heap[k]?):LaidIf EP w':=by
 obtain ⟨h1,h2,h3,⟨m,h4⟩,h5⟩:=h
 refine ⟨yeV Tryz.gPow (hk 1 (by decide)) h1,fun e=>?_,fun e=>?_,
  ⟨m,(World.cell?_of_block (w:=w) (hk 0 (by decide))).trans h4⟩,Nat.le_trans h5 hs⟩
 ·obtain ⟨tp,p,h2⟩:=h2 e
  exact ⟨tp,p,yeV Tryz.gES (hk 2 (by decide)) h2⟩
 ·obtain ⟨tq,q,h3⟩:=h3 e
  exact ⟨tq,q,yeV Tryz.gER (hk 3 (by decide)) h3⟩
theorem LaidIf.below {EP:Prop} {w w':World} (h:LaidIf EP w) (hb:Below w.heap.size w w'):LaidIf EP w':=h.keep hb.size fun k hk=>hb.block k (Nat.lt_of_lt_of_le hk h.sz)
theorem yiW (w:World) (q:Nat) (os:Array Obj):Below w.heap.size w (Sort.grow (w.drewN q) os):=by
 refine ⟨rfl,rfl,rfl, ?_, ?_⟩
 ·show w.heap.size≤(w.heap++os).size
  simp
 ·intro k hk
  show (w.heap++os)[k]?=w.heap[k]?
  rw [Array.getElem?_append_left hk]
theorem ynZ (n:Int) (w:World) (h0:-9223372036854775808≤n) (h1:n≤9223372036854775807) {EP:Prop} (hl:LaidIf EP w) :
  Calls Tryz.prog 136 #[.int .i64 n] w fun e w'=>e=.returned (.string ⟨(Lib.itoa n).toArray⟩)∧Below w.heap.size w w':=by
 refine (Tryz.strconv_Itoa n h0 h1 w hl.tab).mono ?_
 rintro e w' ⟨rfl,k,os,rfl⟩
 exact ⟨rfl,yiW w k os⟩
theorem ykA (l:List UInt8) (hd:∀ c ∈ l,isD c=true):yi1 l < 10 ^ l.length:=by
 have go:∀ (l:List UInt8) (acc:Nat),(∀ c ∈ l,isD c=true)→l.foldl (fun n c=>10*n+(c.toNat - 48)) acc < (acc+1)*10 ^ l.length:=by
  intro l
  induction l with
  | nil=>intro acc _;simp
  | cons c r ih =>
   intro acc h
   have hc:=h c (List.mem_cons_self ..)
   simp only [isD,Bool.and_eq_true,decide_eq_true_eq] at hc
   have:=ih (10*acc+(c.toNat - 48)) fun c hc=>h c (List.mem_cons_of_mem _ hc)
   simp only [List.foldl_cons,List.length_cons,Nat.pow_succ]
   refine Nat.lt_of_lt_of_le this ?_
   have h10:10*acc+(c.toNat - 48)+1≤(acc+1)*10:=by omega
   exact Nat.le_trans (Nat.mul_le_mul_right _ h10) (Nat.le_of_eq (by rw [Nat.mul_assoc,Nat.mul_comm 10]))
 have:=go l 0 hd
 simpa [yi1] using this
structure TokOk (x:Tk):Prop where
 short:x.t.length≤22
 num:x.k=2→x.t≠[]∧x.t.length≤9∧∀ c ∈ x.t,isD c=true
 txt:x.k=3→2≤x.t.length
theorem yks (T:List Tk):∀ (i:Nat) (x:Tk),T[i]?=some x→(ybA T)[i*3]?=some (.int .i64 x.k)∧(ybA T)[i*3+1]?=some (.int .i64 x.a)∧(ybA T)[i*3+2]?=some (.string ⟨x.t.toArray⟩):=by
 induction T with
 | nil=>intro i x h;simp at h
 | cons y r ih =>
  intro i x h
  cases i with
  | zero=>simp at h;subst h;simp [ybA,Tk.cells]
  | succ i =>
   have:=ih i x (by simpa using h)
   have e:ybA (y::r)=y.cells++ybA r:=rfl
   rw [e]
   have e1:(i+1)*3=y.cells.length+i*3:=by simp [Tk.cells];omega
   rw [e1]
   refine ⟨?_, ?_, ?_⟩
   ·rw [List.getElem?_append_right (by omega)];simpa using this.1
   ·rw [Nat.add_assoc,List.getElem?_append_right (by omega)];simpa using this.2.1
   ·rw [Nat.add_assoc,List.getElem?_append_right (by omega)];simpa using this.2.2
theorem yiA {w:World} {base:Nat} {e:TypeId} {size:Nat} {g n cap:Nat} {xs:List Value} (h:w.ownsRow base e size (.slice (some ⟨g,0,none⟩) n cap) n xs) (j:Nat) (x:Value) (hx:xs[j]?=some x) :
  w.cell? ⟨g,j,none⟩=some x:=by
 have hj:=(List.getElem?_eq_some_iff.1 hx).1
 exact (h.cellAt j (by rw [← h.1];exact hj)).trans hx
theorem yjf (w:World) (r:Option Nat):w.grownBy w r:=⟨rfl,rfl,rfl,Nat.le_refl _,fun _ _ _=>rfl⟩
theorem yae {w w':World} (h:Below w.heap.size w w') (r:Option Nat):w.grownBy w' r:=⟨h.os,h.tape,h.output,h.size,fun k hk _=>h.block k hk⟩
theorem yab {a b c:World} {r:Option Nat} (h:a.grownBy b r) (k:b.grownBy c r):a.grownBy c r :=
 ⟨k.os.trans h.os,k.tape.trans h.tape,k.output.trans h.output,Nat.le_trans h.size k.size,fun i hi hr=>(k.block i (Nat.lt_of_lt_of_le hi h.size) hr).trans (h.block i hi hr)⟩
theorem yaE (w:World) (b o:Nat) (x:Value):w.grownBy (w.setCell ⟨b,o,none⟩ x) (some b) :=
 ⟨rfl,rfl,rfl,by simp [World.setCell],fun k _ hk=>heap_setCell_other w _ k x (by intro e;exact hk (by rw [e]))⟩
theorem contains_cons (b:UInt8) (l sub:List UInt8):Lib.contains (b::l) sub=(sub.isPrefixOf (b::l) || Lib.contains l sub):=by
 have h:=Lib.index_ge l sub
 unfold Lib.contains
 rw [Lib.index]
 split
 ·rename_i h1;simp [h1]
 ·rename_i h1
  split
  ·rename_i h2
   have h2':Lib.index l sub = -1:=by simpa using h2
   simp [h1,h2']
  ·rename_i h2
   have h2':Lib.index l sub≠-1:=by simpa using h2
   have e1:(0≤Lib.index l sub+1):=by omega
   have e2:(0≤Lib.index l sub):=by omega
   simp [h1,e1,e2]
theorem yoq (rest:List UInt8):∀ (s w:List UInt8),(32:UInt8) ∉ s→(32:UInt8) ∉ w→(s++[32]).isPrefixOf (w++32::rest)=(s == w):=by
 intro s
 induction s with
 | nil =>
  intro w _ hw
  cases w with
  | nil=>simp
  | cons c r =>
   simp only [List.mem_cons,not_or] at hw
   rw [List.nil_append,List.cons_append,List.isPrefixOf_cons_cons,beq_eq_false_iff_ne.2 hw.1]
   rfl
 | cons c r ih =>
  intro w hs hw
  cases w with
  | nil =>
   simp only [List.mem_cons,not_or] at hs
   rw [List.nil_append,List.cons_append,List.isPrefixOf_cons_cons,beq_eq_false_iff_ne.2 (Ne.symm hs.1)]
   rfl
  | cons d q =>
   simp only [List.mem_cons,not_or] at hs hw
   have:=ih q hs.2 hw.2
   simp only [List.cons_append,List.isPrefixOf_cons_cons,this]
   rfl
theorem ymG (sub rest:List UInt8):∀ w:List UInt8,(32:UInt8) ∉ w→Lib.contains (w++32::rest) (32::sub)=Lib.contains (32::rest) (32::sub):=by
 intro w
 induction w with
 | nil=>intro _;rfl
 | cons c r ih =>
  intro h
  simp only [List.mem_cons,not_or] at h
  rw [List.cons_append,contains_cons,ih h.2,List.isPrefixOf_cons_cons]
  have:((32:UInt8) == c)=false:=by rw [beq_eq_false_iff_ne];exact h.1
  rw [this];rfl
def ymW:List (List UInt8)→List UInt8
 | []=>[]
 | w::ws=>w++32::ymW ws
theorem ye4 (s:List UInt8) (hs:(32:UInt8) ∉ s):∀ ws:List (List UInt8),(∀ w ∈ ws,(32:UInt8) ∉ w)→Lib.contains (32::ymW ws) (32::(s++[32]))=ws.contains s:=by
 intro ws
 induction ws with
 | nil =>
  intro _
  rw [contains_cons]
  have h1:(32::(s++[32])).isPrefixOf (32::ymW [])=false:=by cases s <;> simp [ymW]
  have h2:Lib.contains (ymW []) (32::(s++[32]))=false:=by simp [ymW,Lib.contains,Lib.index]
  rw [h1,h2];rfl
 | cons w ws ih =>
  intro h
  have hw:=h w (List.mem_cons_self ..)
  rw [contains_cons,ymW,List.isPrefixOf_cons_cons,yoq _ s w hs hw,ymG _ _ _ hw,ih fun x hx=>h x (List.mem_cons_of_mem _ hx)]
  rw [List.contains_cons];rfl
theorem yox (p:UInt8→Bool) (l:List UInt8) (h:ycv p l=l.length):∀ c ∈ l,p c=true:=by
 induction l with
 | nil=>intro c hc;cases hc
 | cons a r ih =>
  rw [ybS] at h
  by_cases ha:p a=true
  ·rw [if_pos ha] at h
   intro c hc
   rcases List.mem_cons.1 hc with rfl|hc
   ·exact ha
   ·exact ih (by simpa using h) c hc
  ·rw [if_neg ha] at h;simp at h
theorem yfv {s:List UInt8} (h:ya5 1 s=true):∃ c r,s=c::r∧isL c=true∧(∀ x ∈ r,isW x=true)∧s.length≤12:=by
 rw [ycV] at h
 unfold ybt at h
 simp only [decide_eq_true_eq] at h
 obtain ⟨h0,-,h1,h2,h3⟩:=h
 obtain ⟨c,r,rfl⟩:=List.exists_cons_of_ne_nil h0
 have hk:(ya2 (c::r)).1=1:=by omega
 rw [hk] at h3
 have hl:¬ 12 < (c::r).length:=by
  intro hgt
  rw [yay,if_neg (by decide),if_pos (.inl ⟨rfl,hgt⟩)] at h3
  cases h3
 rw [ya2] at hk h2
 by_cases hc:isL c=true
 ·rw [if_pos hc] at h2
  exact ⟨c,r,rfl,hc,yox isW r (by simpa using h2),by omega⟩
 ·rw [if_neg hc] at hk
  split at hk
  ·cases hk
  ·split at hk
   ·split at hk <;> cases hk
   ·split at hk
    ·cases hk
    ·split at hk <;> cases hk
theorem ygB {c:UInt8} (h:isW c=true):c≠32:=by
 intro e;subst e;revert h;decide
theorem yqo {c:UInt8} (h:isL c=true):isW c=true:=by simp [isW,h]
theorem ye8 {s:List UInt8} (h:ya5 1 s=true):(32:UInt8) ∉ s:=by
 obtain ⟨c,r,rfl,hc,hr,-⟩:=yfv h
 intro hm
 rcases List.mem_cons.1 hm with e|hm
 ·exact ygB (yqo hc) e.symm
 ·exact ygB (hr _ hm) rfl
theorem yfa:∀ w ∈ takenL,(32:UInt8) ∉ w:=by decide +kernel
theorem ye3 {s:List UInt8} (h:ya5 1 s=true):Lib.contains (32::ymW takenL) (32::(s++[32]))=takenL.contains s :=
 ye4 s (ye8 h) takenL yfa
theorem ypv (s:ByteArray):((⟨#[32]⟩:ByteArray)++s++⟨#[32]⟩)=⟨(32::(s.data.toList++[32])).toArray⟩:=by
 obtain ⟨⟨l⟩⟩:=s
 have:=yaz ([32]++l) [32]
 rw [← yaz] at this
 simpa using this
theorem yoj (s:ByteArray) (w:World):ykh (w.alloc (.cells #[.int .i64 1,.int .i64 0,.string s] 63)) w.heap.size 0 1 [⟨1,0,s.data.toList⟩]:=by
 refine ⟨rfl, ?_⟩
 intro i x hx
 match i,hx with
 | 0,hx =>
  simp at hx;subst hx
  simp
 | i+1,hx=>simp at hx
theorem yjD (s:List UInt8):(yeB [⟨1,0,s⟩]).2=if ya5 1 s=true then 0 else 1:=by
 unfold yeB
 by_cases h:ya5 1 s=true
 ·obtain ⟨_,_,_,_,_,hl⟩:=yfv h
  rw [if_pos (by simpa using h),if_pos h,if_neg]
  show ¬ 2000 < s.length
  omega
 ·rw [if_neg (by simpa using h),if_neg h]
theorem ygH (s:ByteArray) (w:World) (hs:s.size≤140737488355328) :
  Calls Tryz.prog 16 #[.slice (some ⟨w.heap.size,0,none⟩) 1 1] (w.alloc (.cells #[.int .i64 1,.int .i64 0,.string s] 63)) fun e w' =>
   (∃ S:List UInt8,e=.returned (.tuple #[.string ⟨S.toArray⟩,.int .i64 ((if ya5 1 s.data.toList=true then 0 else 1:Nat):Int)]))∧Below w.heap.size w w':=by
 have hsz:s.data.toList.length=s.size:=by simp
 refine (ygC w.heap.size 0 1 1 [⟨1,0,s.data.toList⟩] _ (by decide) (by decide) (by simp) (yoj s w) (by intro x hx;simp at hx;subst hx;simp;omega)).mono ?_
 rintro e w' ⟨rfl,hb⟩
 rw [← yjD]
 exact ⟨⟨_,rfl⟩,((Below.refl _ _).alloc (Nat.le_refl _) _).trans (hb.mono (by simp))⟩
theorem ylj (s:ByteArray) (w:World) (hs:s.size≤140737488355328) (h:ya5 1 s.data.toList=false) :
  Calls Tryz.prog 72 #[.string s] w fun e w'=>e=.returned (.bool false)∧Below w.heap.size w w':=by
 have hj:=ygH s w hs
 simp only [h,Bool.false_eq_true,if_false] at hj
 go_enter Tryz.func72,Tryz.ntmps72
 go_wp2_with (go_at_call 16;refine hj.mono ?_;rintro e w1 ⟨⟨S,rfl⟩,hb1⟩)
 go_ret
 exact ⟨rfl,hb1⟩
theorem yjw (s:ByteArray) (w:World) (hs:s.size≤140737488355328) {EP:Prop} (hl:LaidIf EP w) (h:ya5 1 s.data.toList=true) :
  Calls Tryz.prog 72 #[.string s] w fun e w'=>e=.returned (.bool (!takenL.contains s.data.toList))∧Below w.heap.size w w':=by
 have hj:=ygH s w hs
 simp only [h,if_true] at hj
 have hc:∀ W:World,LaidIf EP W→Calls Tryz.prog 120 #[.string ⟨(32::ymW takenL).toArray⟩,.string ((⟨#[32]⟩:ByteArray)++s++⟨#[32]⟩)] W fun e w'=>e=.returned (.bool (takenL.contains s.data.toList))∧w'=W:=by
  intro W hW
  obtain ⟨m,hm⟩:=hW.ml
  have:=Tryz.strings_Contains ⟨(32::ymW takenL).toArray⟩ ((⟨#[32]⟩:ByteArray)++s++⟨#[32]⟩) m W (by decide +kernel) hm
  rw [ypv] at this ⊢
  simpa only [ye3 h] using this
 generalize takenL.contains s.data.toList=B at hc ⊢
 go_enter Tryz.func72,Tryz.ntmps72
 go_wp2_with (go_at_call 16;refine hj.mono ?_;rintro e w1 ⟨⟨S,rfl⟩,hb1⟩)
 refine (hc _ (hl.below hb1)).mono ?_
 rintro e w2 ⟨rfl,rfl⟩
 go_wp2
 go_ret
 exact ⟨rfl,hb1⟩
theorem yc6 (s:ByteArray) (w:World) (hs:s.size≤140737488355328) {EP:Prop} (hl:LaidIf EP w) :
  Calls Tryz.prog 72 #[.string s] w fun e w'=>e=.returned (.bool (yan s.data.toList))∧Below w.heap.size w w':=by
 unfold yan
 cases h:ya5 1 s.data.toList
 ·exact ylj s w hs h
 ·exact yjw s w hs hl h
def yre (w:World) (b:Nat) (ws:List (List UInt8)):Prop:=∀ k s,ws[k]?=some s→w.cell? ⟨b,k,none⟩=some (.string ⟨s.toArray⟩)
theorem ykp (ws:List (List UInt8)) (k:Int) (h:k < 0∨(ws.length:Int)≤k):atL ws k=[]:=by
 unfold atL
 split
 ·rfl
 ·rw [List.getD_eq_getElem?_getD,List.getElem?_eq_none (by omega)];rfl
theorem yo0 (k:Int) (w:World) (b cap:Nat) (ws:List (List UInt8)) (hc:yre w b ws) :
  Calls Tryz.prog 156 #[.slice (some ⟨b,0,none⟩) ws.length cap,.int .i64 k] w fun e w'=>e=.returned (.string ⟨(atL ws k).toArray⟩)∧w'=w:=by
 obtain ⟨n,hl⟩:∃ n,ws.length=n:=⟨_,rfl⟩
 rw [hl]
 by_cases h0:k < 0
 ·rw [ykp ws k (.inl h0)]
  clear hc
  go_enter Tryz.func156,Tryz.ntmps156
  go_wp2
  go_ret
  exact ⟨rfl,rfl⟩
 by_cases h1:(n:Int)≤k
 ·rw [ykp ws k (.inr (by omega))]
  have hd:decide (k < 0)=false:=by simpa using h0
  clear hc h0
  go_enter Tryz.func156,Tryz.ntmps156
  go_wp2
  go_ret
  exact ⟨rfl,rfl⟩
 ·obtain ⟨j,rfl⟩:∃ j:Nat,k=(j:Int):=⟨k.toNat,by omega⟩
  obtain ⟨u,hu⟩:∃ u,ws[j]?=some u:=⟨ws[j],List.getElem?_eq_getElem (by omega)⟩
  have a0:=hc j u hu
  have e:atL ws (j:Int)=u:=by
   unfold atL
   rw [if_neg h0,List.getD_eq_getElem?_getD,Int.toNat_natCast,hu];rfl
  rw [e]
  have hd:decide ((j:Int) < 0)=false:=by simp
  have hd2:decide ((n:Int)≤(j:Int))=false:=by simpa using h1
  have hlt':(j:Int) < (n:Int):=by omega
  clear hc h0 h1 e hu
  go_enter Tryz.func156,Tryz.ntmps156
  go_wp2
  go_ret
  exact ⟨rfl,rfl⟩
def yfI (ws:List (List UInt8)):Array Value:=(ws.map fun s=>Value.string ⟨s.toArray⟩).toArray
theorem yg3 (w:World) (ws:List (List UInt8)):yre (w.alloc (.cells (yfI ws) 9)) w.heap.size ws:=by
 intro k s hk
 have h:(w.alloc (.cells (yfI ws) 9)).heap[w.heap.size]?=some (.cells (yfI ws) 9):=heap_alloc_new _ _
 rw [Lib.cell_of_heap h]
 simp [yfI,hk]
theorem ymL (w:World):Calls Tryz.prog 157 #[] w fun e w'=>e=.returned (.slice (some ⟨w.heap.size,0,none⟩) 4 4)∧w'=w.alloc (.cells (yfI yaB) 9):=by
 go_enter Tryz.func157,Tryz.ntmps157
 go_wp2
 go_ret
 exact ⟨rfl,rfl⟩
theorem yfY (w:World):Calls Tryz.prog 168 #[] w fun e w'=>e=.returned (.slice (some ⟨w.heap.size,0,none⟩) 12 12)∧w'=w.alloc (.cells (yfI ya3) 9):=by
 go_enter Tryz.func168,Tryz.ntmps168
 go_wp2
 go_ret
 exact ⟨rfl,rfl⟩
theorem yfw (k:Int) (w:World):Calls Tryz.prog 123 #[.int .i64 k] w fun e w'=>e=.returned (.string ⟨(atL yaB k).toArray⟩)∧Below w.heap.size w w':=by
 have h2:=yo0 k _ w.heap.size 4 yaB (yg3 w yaB)
 go_enter Tryz.func123,Tryz.ntmps123
 go_wp2_with (first|(go_at_call 157;refine (ymL _).mono ?_;rintro e w1 ⟨rfl,rfl⟩)|(go_at_call 156;refine h2.mono ?_;rintro e w2 ⟨rfl,rfl⟩))
 go_ret
 exact ⟨rfl,(Below.refl _ _).alloc (Nat.le_refl _) _⟩
theorem ydc (k:Int) (w:World):Calls Tryz.prog 138 #[.int .i64 k] w fun e w'=>e=.returned (.string ⟨(atL ya3 k).toArray⟩)∧Below w.heap.size w w':=by
 have h2:=yo0 k _ w.heap.size 12 ya3 (yg3 w ya3)
 go_enter Tryz.func138,Tryz.ntmps138
 go_wp2_with (first|(go_at_call 168;refine (yfY _).mono ?_;rintro e w1 ⟨rfl,rfl⟩)|(go_at_call 156;refine h2.mono ?_;rintro e w2 ⟨rfl,rfl⟩))
 go_ret
 exact ⟨rfl,(Below.refl _ _).alloc (Nat.le_refl _) _⟩
theorem ytB (l:List UInt8) (a b:Nat):(⟨l.toArray⟩:ByteArray).extract a b=⟨((l.drop a).take (b - a)).toArray⟩:=by
 have h:((⟨l.toArray⟩:ByteArray).extract a b).data=((l.drop a).take (b - a)).toArray:=by
  rw [ByteArray.data_extract];simp
 rw [← h]
def exV (k:Int) (x:Vl) (nm:List UInt8) (a:Value):Value:=.agg #[.int .i64 k,.int .i64 x.k,.int .i64 x.n,.string ⟨x.s.toArray⟩,.string ⟨nm.toArray⟩,a]
def Six (w:World) (b o:Nat) (u:Value):Prop :=
 ∃ k x nm a,u=exV k x nm a∧w.cell? ⟨b,o,none⟩=some (.int .i64 k)∧w.cell? ⟨b,o+1,none⟩=some (.int .i64 x.k)∧w.cell? ⟨b,o+2,none⟩=some (.int .i64 x.n) ∧
  w.cell? ⟨b,o+3,none⟩=some (.string ⟨x.s.toArray⟩)∧w.cell? ⟨b,o+4,none⟩=some (.string ⟨nm.toArray⟩)∧w.cell? ⟨b,o+5,none⟩=some a
inductive ExAt (B:Nat) (w:World):Value→Ex→Prop where
 | nil (k:Int) (x:Vl) (nm:List UInt8) (ao:Option Addr) (cap:Nat) (hz:ao=none→cap=0):ExAt B w (exV k x nm (.slice ao 0 cap)) (.mk k x nm [])
 | args (k:Int) (x:Vl) (nm:List UInt8) (b off cap:Nat) (xs:List Ex) (us:Nat→Value) (hx:xs≠[]) (hB:B≤b) (hs:b < w.heap.size) (hc:∀ i,i < xs.length→Six w b (off+6*i) (us i))
   (h:∀ i y,xs[i]?=some y→ExAt B w (us i) y):ExAt B w (exV k x nm (.slice (some ⟨b,off,none⟩) xs.length cap)) (.mk k x nm xs)
theorem Six.keep {w w':World} {b o:Nat} {u:Value} (h:Six w b o u) (hk:w'.heap[b]?=w.heap[b]?):Six w' b o u:=by
 obtain ⟨k,x,nm,a,rfl,h0,h1,h2,h3,h4,h5⟩:=h
 have e:∀ o,w'.cell? ⟨b,o,none⟩=w.cell? ⟨b,o,none⟩:=fun o=>World.cell?_of_block (w:=w) hk
 exact ⟨k,x,nm,a,rfl,(e _).trans h0,(e _).trans h1,(e _).trans h2,(e _).trans h3,(e _).trans h4,(e _).trans h5⟩
theorem ExAt.keep {B:Nat} {w w':World} {u:Value} {x:Ex} (h:ExAt B w u x) (hs:w.heap.size≤w'.heap.size) (hk:∀ b,B≤b→b < w.heap.size→w'.heap[b]?=w.heap[b]?):ExAt B w' u x:=by
 induction h with
 | nil k x nm ao cap hz=>exact .nil k x nm ao cap hz
 | args k x nm b off cap xs us hx hB hsz hc _ ih =>
  exact .args k x nm b off cap xs us hx hB (Nat.lt_of_lt_of_le hsz hs) (fun i hi=>(hc i hi).keep (hk b hB hsz)) ih
theorem ExAt.grown {B pb:Nat} {w w':World} {u:Value} {x:Ex} (h:ExAt B w u x) (hp:pb < B) (hg:w.grownBy w' (some pb)):ExAt B w' u x :=
 h.keep hg.size fun b hB hs=>hg.block b hs (by simp only [ne_eq,Option.some.injEq];omega)
theorem ExAt.alloc {B:Nat} {w:World} {u:Value} {x:Ex} (h:ExAt B w u x) (o:Obj):ExAt B (w.alloc o) u x :=
 h.keep (by simp) fun b _ hs=>((Below.refl w.heap.size w).alloc (Nat.le_refl _) o).block b hs
theorem ExAt.under {B:Nat} {w w':World} {u:Value} {x:Ex} (h:ExAt B w u x) (hb:Below w.heap.size w w'):ExAt B w' u x :=
 h.keep hb.size fun b _ hs=>hb.block b hs
theorem ExAt.weak {B B':Nat} {w:World} {u:Value} {x:Ex} (h:ExAt B w u x) (hB:B'≤B):ExAt B' w u x:=by
 induction h with
 | nil k x nm ao cap hz=>exact .nil k x nm ao cap hz
 | args k x nm b off cap xs us hx hb hsz hc _ ih=>exact .args k x nm b off cap xs us hx (Nat.le_trans hB hb) hsz hc ih
theorem ExAt.form {B:Nat} {w:World} {u:Value} {x:Ex} (h:ExAt B w u x):∃ k y nm ao n cap,u=exV k y nm (.slice ao n cap):=by
 cases h with
 | nil k x nm ao cap _=>exact ⟨_,_,_,_,_,_,rfl⟩
 | args k x nm b off cap xs us=>exact ⟨_,_,_,_,_,_,rfl⟩
theorem ymD {w:World} {b:Nat} {t:TypeId} {cs:Array Value} (h:w.heap[b]?=some (.cells cs t)) (o:Nat) (k:Int) (x:Vl) (nm:List UInt8) (a:Value)
  (h0:cs[o]?=some (.int .i64 k)) (h1:cs[o+1]?=some (.int .i64 x.k)) (h2:cs[o+2]?=some (.int .i64 x.n)) (h3:cs[o+3]?=some (.string ⟨x.s.toArray⟩)) (h4:cs[o+4]?=some (.string ⟨nm.toArray⟩)) (h5:cs[o+5]?=some a):Six w b o (exV k x nm a) :=
 ⟨k,x,nm,a,rfl,(Lib.cell_of_heap h _).trans h0,(Lib.cell_of_heap h _).trans h1,(Lib.cell_of_heap h _).trans h2,(Lib.cell_of_heap h _).trans h3,(Lib.cell_of_heap h _).trans h4,(Lib.cell_of_heap h _).trans h5⟩
theorem yo8 {B:Nat} {w:World} {b:Nat} {t:TypeId} {k:Int} {x:Vl} {nm:List UInt8} {a:Value} {y:Ex} (hk:w.heap[b]?=some (.cells #[.int .i64 k,.int .i64 x.k,.int .i64 x.n,.string ⟨x.s.toArray⟩,.string ⟨nm.toArray⟩,a] t)) (hB:B≤b) (h:ExAt B w (exV k x nm a) y) (K:Int) (cap:Nat) :
  ExAt B w (exV K vl0 [] (.slice (some ⟨b,0,none⟩) 1 cap)) (.mk K vl0 [] [y]):=by
 refine .args K vl0 [] b 0 cap [y] (fun _=>exV k x nm a) (by simp) hB (ltS hk) ?_ ?_
 ·intro i hi
  have:i=0:=by simpa using hi
  subst this
  exact ymD hk 0 k x nm a rfl rfl rfl rfl rfl rfl
 ·intro i z hz
  match i,hz with
  | 0,hz=>simp only [List.getElem?_cons_zero,Option.some.injEq] at hz;subst hz;exact h
theorem yo9 {B:Nat} {w:World} {b:Nat} {t:TypeId} {k k':Int} {x x':Vl} {nm nm':List UInt8} {a a':Value} {y y':Ex} (hk:w.heap[b]?=some (.cells #[.int .i64 k,.int .i64 x.k,.int .i64 x.n,.string ⟨x.s.toArray⟩,.string ⟨nm.toArray⟩,a,.int .i64 k',.int .i64 x'.k,.int .i64 x'.n,.string ⟨x'.s.toArray⟩,.string ⟨nm'.toArray⟩,a'] t)) (hB:B≤b)
  (h:ExAt B w (exV k x nm a) y) (h':ExAt B w (exV k' x' nm' a') y') (K:Int) (cap:Nat) :
  ExAt B w (exV K vl0 [] (.slice (some ⟨b,0,none⟩) 2 cap)) (.mk K vl0 [] [y,y']):=by
 refine .args K vl0 [] b 0 cap [y,y'] (fun i=>if i=0 then exV k x nm a else exV k' x' nm' a') (by simp) hB (ltS hk) ?_ ?_
 ·intro i hi
  match i,hi with
  | 0,_=>exact ymD hk 0 k x nm a rfl rfl rfl rfl rfl rfl
  | 1,_=>exact ymD hk 6 k' x' nm' a' rfl rfl rfl rfl rfl rfl
 ·intro i z hz
  match i,hz with
  | 0,hz=>simp only [List.getElem?_cons_zero,Option.some.injEq] at hz;subst hz;exact h
  | 1,hz=>simp only [List.getElem?_cons_succ,List.getElem?_cons_zero,Option.some.injEq] at hz;subst hz;exact h'
def RowAt (B:Nat) (w:World) (u:Value) (n:Nat) (xs:List Value):Prop :=
 (n=0∧∃ ao cap,u=.slice ao 0 cap)∨∃ b off cap,u=.slice (some ⟨b,off,none⟩) n cap∧B≤b∧b < w.heap.size∧∀ j x,xs[j]?=some x→w.cell? ⟨b,off+j,none⟩=some x
theorem RowAt.keep {B:Nat} {w w':World} {u:Value} {n:Nat} {xs:List Value} (h:RowAt B w u n xs) (hs:w.heap.size≤w'.heap.size) (hk:∀ b,B≤b→b < w.heap.size→w'.heap[b]?=w.heap[b]?):RowAt B w' u n xs:=by
 rcases h with h|⟨b,off,cap,hu,hB,hl,hc⟩
 ·exact .inl h
 ·exact .inr ⟨b,off,cap,hu,hB,Nat.lt_of_lt_of_le hl hs,fun j x hj=>(World.cell?_of_block (w:=w) (hk b hB hl)).trans (hc j x hj)⟩
theorem RowAt.under {B:Nat} {w w':World} {u:Value} {n:Nat} {xs:List Value} (h:RowAt B w u n xs) (hb:Below w.heap.size w w'):RowAt B w' u n xs :=
 h.keep hb.size fun b _ hs=>hb.block b hs
theorem RowAt.weak {B B':Nat} {w:World} {u:Value} {n:Nat} {xs:List Value} (h:RowAt B w u n xs) (hB:B'≤B):RowAt B' w u n xs:=by
 rcases h with h|⟨b,off,cap,hu,hb,hl,hc⟩
 ·exact .inl h
 ·exact .inr ⟨b,off,cap,hu,Nat.le_trans hB hb,hl,hc⟩
theorem RowAt.form {B:Nat} {w:World} {u:Value} {n:Nat} {xs:List Value} (h:RowAt B w u n xs):∃ ao cap,u=.slice ao n cap:=by
 rcases h with ⟨rfl,ao,cap,rfl⟩|⟨b,off,cap,rfl,-⟩
 ·exact ⟨_,_,rfl⟩
 ·exact ⟨_,_,rfl⟩
theorem RowAt.nil (B:Nat) (w:World) (xs:List Value):RowAt B w (.slice none 0 0) 0 xs:=.inl ⟨rfl,_,_,rfl⟩
def clC (c:Cl):List Value:=[.string ⟨c.name.toArray⟩,.int .i64 c.ty]
def vlC (x:Vl):List Value:=[.int .i64 x.k,.int .i64 x.n,.string ⟨x.s.toArray⟩]
def stC (s:List UInt8):List Value:=[.string ⟨s.toArray⟩]
theorem yom (w:World) (B:Nat) (e:TypeId) (size:Nat) (cs:Array Value) (hs:cs.size=size) (hB:B≤w.heap.size):(w.alloc (.cells cs e)).ownsRow B e size (.slice (some ⟨w.heap.size,0,none⟩) 1 1) 1 cs.toList:=by
 refine ⟨by simp [hs],.inr ⟨w.heap.size,1,cs,rfl,hB,heap_alloc_new _ _,Nat.le_refl _,by decide,by omega, ?_⟩⟩
 rw [List.take_of_length_le]
 simp [hs]
theorem hmf (fn:Fn) (first cap:Array Value) (w:World):(Instr.makeFunc fn first cap).run Tryz.prog w=.ok (.func fn first cap) w:=rfl
theorem Tryz.info_str:(Tryz.prog.info? 9).map (fun i=>(i.zero,i.size,i.bytes))=some (some (.string ⟨#[]⟩),1,16):=by kernel_rfl
def putAll (W:World) (b:Nat):Nat→List Value→World
 | _,[]=>W
 | o,x::xs=>putAll (W.setCell ⟨b,o,none⟩ x) b (o+1) xs
theorem ybB (b:Nat):∀ (xs:List Value) (W:World) (o:Nat),(putAll W b o xs).heap.size=W.heap.size:=by
 intro xs
 induction xs with
 | nil=>intro W o;rfl
 | cons x xs ih=>intro W o;rw [putAll,ih];simp [World.setCell]
theorem yaY (b:Nat):∀ (xs:List Value) (W:World) (o k:Nat),k≠b→(putAll W b o xs).heap[k]?=W.heap[k]?:=by
 intro xs
 induction xs with
 | nil=>intro W o k _;rfl
 | cons x xs ih=>intro W o k hk;rw [putAll,ih _ _ _ hk];exact heap_setCell_other W ⟨b,o,none⟩ k x hk
theorem yaX (b:Nat):∀ (xs:List Value) (W:World) (o:Nat),(putAll W b o xs).os=W.os∧(putAll W b o xs).tape=W.tape∧(putAll W b o xs).output=W.output:=by
 intro xs
 induction xs with
 | nil=>intro W o;exact ⟨rfl,rfl,rfl⟩
 | cons x xs ih=>intro W o;rw [putAll];exact ih _ _
theorem yb5 (b:Nat) (xs:List Value) (W:World) (o:Nat):W.grownBy (putAll W b o xs) (some b) :=
 ⟨(yaX b xs W o).1,(yaX b xs W o).2.1,(yaX b xs W o).2.2,Nat.le_of_eq (ybB b xs W o).symm,fun k _ hk=>yaY b xs W o k (by intro e;exact hk (by rw [e]))⟩
theorem ygv {w w':World} {r:Option Nat} (h:w.grownBy w' r) {b:Nat} (hb:w.heap.size≤b) (o:Nat) (xs:List Value):w.grownBy (putAll w' b o xs) r :=
 ⟨(yaX b xs w' o).1.trans h.os,(yaX b xs w' o).2.1.trans h.tape,(yaX b xs w' o).2.2.trans h.output,Nat.le_trans h.size (Nat.le_of_eq (ybB b xs w' o).symm),
  fun k hk hr=>(yaY b xs w' o k (by omega)).trans (h.block k hk hr)⟩
theorem RowAt.putAll {B:Nat} {w:World} {u:Value} {n:Nat} {xs:List Value} (h:RowAt B w u n xs) {b:Nat} (hb:b < B) (o:Nat) (ys:List Value):RowAt B (putAll w b o ys) u n xs :=
 h.keep (Nat.le_of_eq (ybB b ys w o).symm) fun c hc _=>yaY b ys w o c (by omega)
theorem ExAt.putAll {B:Nat} {w:World} {u:Value} {x:Ex} (h:ExAt B w u x) {b:Nat} (hb:b < B) (o:Nat) (ys:List Value):ExAt B (putAll w b o ys) u x :=
 h.keep (Nat.le_of_eq (ybB b ys w o).symm) fun c hc _=>yaY b ys w o c (by omega)
def Ex.k:Ex→Int|.mk k _ _ _=>k
def Ex.v:Ex→Vl|.mk _ v _ _=>v
def Ex.nm:Ex→List UInt8|.mk _ _ n _=>n
def cmL (c:Cm) (cv vv fv ea wa:Value):List Value :=
 [.int .i64 c.kind,.string ⟨c.name.toArray⟩,.string ⟨c.other.toArray⟩,.string ⟨c.column.toArray⟩,cv,.int .i64 c.ty,.int .i64 c.val.k,.int .i64 c.val.n,.string ⟨c.val.s.toArray⟩,vv,fv,
  .int .i64 c.expr.k,.int .i64 c.expr.v.k,.int .i64 c.expr.v.n,.string ⟨c.expr.v.s.toArray⟩,.string ⟨c.expr.nm.toArray⟩,ea,.bool c.all,
  .int .i64 c.wh.k,.int .i64 c.wh.v.k,.int .i64 c.wh.v.n,.string ⟨c.wh.v.s.toArray⟩,.string ⟨c.wh.nm.toArray⟩,wa,.string ⟨c.order.toArray⟩,.int .i64 c.limit]
structure CmIn (B:Nat) (w:World) (c:Cm) (cv vv fv ea wa:Value):Prop where
 cols:RowAt B w cv c.cols.length (c.cols.flatMap clC)
 vals:RowAt B w vv c.vals.length (c.vals.flatMap vlC)
 fields:RowAt B w fv c.fields.length (c.fields.flatMap stC)
 expr:ExAt B w (exV c.expr.k c.expr.v c.expr.nm ea) c.expr
 wh:ExAt B w (exV c.wh.k c.wh.v c.wh.nm wa) c.wh
theorem CmIn.keep {B:Nat} {w w':World} {c:Cm} {cv vv fv ea wa:Value} (h:CmIn B w c cv vv fv ea wa) (hs:w.heap.size≤w'.heap.size) (hk:∀ b,B≤b→b < w.heap.size→w'.heap[b]?=w.heap[b]?):CmIn B w' c cv vv fv ea wa :=
 ⟨h.cols.keep hs hk,h.vals.keep hs hk,h.fields.keep hs hk,h.expr.keep hs hk,h.wh.keep hs hk⟩
theorem CmIn.grown {B pb:Nat} {w w':World} {c:Cm} {cv vv fv ea wa:Value} (h:CmIn B w c cv vv fv ea wa) (hp:pb < B) (hg:w.grownBy w' (some pb)):CmIn B w' c cv vv fv ea wa :=
 h.keep hg.size fun b hB hs=>hg.block b hs (by simp only [ne_eq,Option.some.injEq];omega)
theorem CmIn.put {B:Nat} {w:World} {c:Cm} {cv vv fv ea wa:Value} (h:CmIn B w c cv vv fv ea wa) {b:Nat} (hb:b < B) (o:Nat) (y:Value):CmIn B (w.setCell ⟨b,o,none⟩ y) c cv vv fv ea wa :=
 h.keep (by simp [World.setCell]) fun c hc _=>heap_setCell_other w _ c y (by simp only;omega)
theorem CmIn.under {B:Nat} {w w':World} {c:Cm} {cv vv fv ea wa:Value} (h:CmIn B w c cv vv fv ea wa) (hb:Below w.heap.size w w'):CmIn B w' c cv vv fv ea wa :=
 h.keep hb.size fun b _ hs=>hb.block b hs
theorem CmIn.putAll {B:Nat} {w:World} {c:Cm} {cv vv fv ea wa:Value} (h:CmIn B w c cv vv fv ea wa) {b:Nat} (hb:b < B) (o:Nat) (ys:List Value):CmIn B (putAll w b o ys) c cv vv fv ea wa :=
 h.keep (Nat.le_of_eq (ybB b ys w o).symm) fun c hc _=>yaY b ys w o c (by omega)
theorem CmIn.weak {B B':Nat} {w:World} {c:Cm} {cv vv fv ea wa:Value} (h:CmIn B w c cv vv fv ea wa) (hB:B'≤B):CmIn B' w c cv vv fv ea wa :=
 ⟨h.cols.weak hB,h.vals.weak hB,h.fields.weak hB,h.expr.weak hB,h.wh.weak hB⟩
def ys9 (B:Nat) (w:World) (u:Value) (c:Cm):Prop :=
 ∃ cv vv fv ea wa,u=.agg (cmL c cv vv fv ea wa).toArray∧CmIn B w c cv vv fv ea wa
theorem yeQ (b:Nat):∀ (vs:List Value) (w:World) (o:Nat),w.setCells b o vs=putAll w b o vs:=by
 intro vs
 induction vs with
 | nil=>intro w o;rfl
 | cons x vs ih=>intro w o;rw [World.setCells,putAll,ih]
theorem yjM {b:Nat} {t:TypeId}:∀ (xs mid:List Value) (W:World) (pre post:List Value),mid.length=xs.length→W.heap[b]?=some (.cells (pre++mid++post).toArray t) →
  (putAll W b pre.length xs).heap[b]?=some (.cells (pre++xs++post).toArray t):=by
 intro xs
 induction xs with
 | nil=>intro mid W pre post hl h;cases mid with
  | nil=>exact h
  | cons _ _=>cases hl
 | cons x xs ih =>
  intro mid W pre post hl h
  cases mid with
  | nil=>cases hl
  | cons y mid =>
   have h1:=heap_setCell_same W b pre.length _ t x h
   have e:(pre++y::mid++post).toArray.setIfInBounds pre.length x=((pre++[x])++mid++post).toArray:=by simp
   rw [e] at h1
   have:=ih mid (W.setCell ⟨b,pre.length,none⟩ x) (pre++[x]) post (by simpa using hl) h1
   rw [putAll]
   simpa using this
theorem yoQ {w:World} {b:Nat} {cs:List Value} {t:TypeId} (hb:w.heap[b]?=some (.cells cs.toArray t)) (o n:Nat) (hn:o+n≤cs.length):w.there b o n:=by
 intro j hj
 refine ⟨?_,Lib.frozen_of_heap hb _⟩
 rw [Lib.cell_of_heap hb]
 have:cs.toArray[o+j]?=some (cs[o+j]'(by omega)):=by simp [List.getElem?_eq_getElem (show o+j < cs.length by omega)]
 rw [this];rfl
section
variable {P:Program} {ops:Array Oper} {rest:List Oper} {op:Oper} {a:Act} {w:World} {Q:Exit→Act→World→Prop}
theorem ybE (ty:TypeId) (x y:Operand) (hgd:op.guard=none) (ho:op.op=.store ty x y) (b:Nat) (pre mid post xs:List Value) (t:TypeId)
  (hx:a.eval x=.pointer (some ⟨b,pre.length,none⟩)) (hy:a.eval y=.agg xs.toArray) (hb:w.heap[b]?=some (.cells (pre++mid++post).toArray t)) (hl:mid.length=xs.length)
  (hi:(P.info? ty).map (·.size)=some xs.length) (h1:∀ v ∈ xs,v.oneCell'=true)
  (h:∀ w',w'.heap[b]?=some (.cells (pre++xs++post).toArray t)→Hid (w'=putAll w b pre.length xs)→wpList P ops Q rest (a.put op.dst undef) w'):wpList P ops Q (op::rest) a w:=by
 refine wpList_store_mid hgd ty x y ho b pre.length xs.toArray hx hy (yoQ hb _ _ (by simp;omega)) (by simpa using hi) (all_oneCell_toArray h1) ?_
 have e:w.setCells b pre.length xs.toArray.toList=putAll w b pre.length xs:=by simpa using yeQ b xs w pre.length
 rw [e]
 exact h _ (yjM xs mid w pre post hl hb) (yaa rfl)
theorem yai (ty:TypeId) (x y:Operand) (hgd:op.guard=none) (ho:op.op=.store ty x y) (b:Nat) (cs xs:List Value) (t:TypeId)
  (hx:a.eval x=.pointer (some ⟨b,0,none⟩)) (hy:a.eval y=.agg xs.toArray) (hb:w.heap[b]?=some (.cells cs.toArray t)) (hl:cs.length=xs.length)
  (hi:(P.info? ty).map (·.size)=some xs.length) (h1:∀ v ∈ xs,v.oneCell'=true)
  (h:∀ w',w'.heap[b]?=some (.cells xs.toArray t)→Hid (w'=putAll w b 0 xs)→wpList P ops Q rest (a.put op.dst undef) w'):wpList P ops Q (op::rest) a w:=by
 refine ybE ty x y hgd ho b [] cs [] xs t hx hy (by simpa using hb) hl hi h1 fun w' hw hp=>h w' (by simpa using hw) hp
theorem yag (ty:TypeId) (x:Operand) (hgd:op.guard=none) (ho:op.op=.load ty x) (b:Nat) (cs:List Value) (t:TypeId) (d:TypeDesc)
  (hx:a.eval x=.pointer (some ⟨b,0,none⟩)) (hb:w.heap[b]?=some (.cells cs.toArray t)) (hu:P.underlying ty=some d) (hd:d.isRow=true) (hi:(P.info? ty).map (·.size)=some cs.length)
  (h:wpList P ops Q rest (a.put op.dst (.agg cs.toArray)) w):wpList P ops Q (op::rest) a w :=
 wpList_load_mid hgd ty x ho b 0 hx cs d (fun j v hv=>by rw [Nat.zero_add,Lib.cell_of_heap hb];simpa using hv) hu hd hi h
theorem yao (slot:Nat) (ty:TypeId) (zs:List Value) (hd:op.dst=some slot) (hgd:op.guard=none) (ho:op.op=.alloc ty) (hz:∀ w,(Instr.alloc ty true (.tuple #[])).run P w=.ok (.pointer (some ⟨w.heap.size,0,none⟩)) (w.alloc (.cells zs.toArray ty)))
  (h:∀ w' b,Hid (b=w.heap.size)→w'.heap[b]?=some (.cells zs.toArray ty)→Below w.heap.size w w'→wpList P ops Q rest (a.put (some slot) (.pointer (some ⟨b,0,none⟩))) w'):wpList P ops Q (op::rest) a w:=by
 refine wpList_plain hgd fun K hK=>?_
 rw [← hd] at h
 unfold Oper.wp execOp
 simp only [ho,hz,Result.andThen_ok,Sem.run_bind]
 exact hK _ _ (h _ _ (yaa rfl) (heap_alloc_new _ _) ((Below.refl _ _).alloc (Nat.le_refl _) _))
end
theorem yaJ {P:Program} {fn:Func} {s:Tmp} {ty:TypeId} (hr:fn.results=#[.cell s ty]) (tmps:Array Value) (w:World) (b:Nat) (cs:List Value) (t:TypeId) (d:TypeDesc) (hs:tmps.getD s undef=.pointer (some ⟨b,0,none⟩))
  (hb:w.heap[b]?=some (.cells cs.toArray t)) (hu:P.underlying ty=some d) (hd:d.isRow=true) (hi:(P.info? ty).map (·.size)=some cs.length) :
  (results fn tmps).run P w=.ok (.agg cs.toArray) w:=by
 have h:=run_loadVar_mid (P:=P) w b 0 ty cs d (fun j v hv=>by rw [Nat.zero_add,Lib.cell_of_heap hb];simpa using hv) hu hd hi
 have hs':tmps[s]?.getD undef=.pointer (some ⟨b,0,none⟩):=by simpa using hs
 simp [results,hr,hs',asAddr,h]
theorem Tryz.size31:(Tryz.prog.info? 31).map (·.size)=some 26:=by kernel_rfl
theorem Tryz.size29:(Tryz.prog.info? 29).map (·.size)=some 6:=by kernel_rfl
theorem Tryz.size24:(Tryz.prog.info? 24).map (·.size)=some 3:=by kernel_rfl
theorem RowAt.one {B:Nat} {w:World} {u:Value} {n:Nat} {xs:List Value} (h:RowAt B w u n xs):u.oneCell'=true:=by
 obtain ⟨ao,cap,rfl⟩:=h.form;rfl
theorem ExAt.one {B:Nat} {w:World} {k:Int} {x:Vl} {nm:List UInt8} {a:Value} {y:Ex} (h:ExAt B w (exV k x nm a) y):a.oneCell'=true:=by
 obtain ⟨k',x',nm',ao,n,cap,e⟩:=h.form
 simp only [exV,Value.agg.injEq,Array.mk.injEq,List.cons.injEq] at e
 rw [e.2.2.2.2.2.1];rfl
theorem ExAt.parts {B:Nat} {w:World} {k:Int} {x:Vl} {nm:List UInt8} {a:Value} {y:Ex} (h:ExAt B w (exV k x nm a) y):k=y.k∧x=y.v∧nm=y.nm:=by
 have go:∀ (u:Value),ExAt B w u y→u=exV k x nm a→k=y.k∧x=y.v∧nm=y.nm:=by
  intro u hu e
  cases hu with
  | nil k' x' nm' ao cap _ =>
   obtain ⟨xk,xn,xs⟩:=x
   obtain ⟨xk',xn',xs'⟩:=x'
   simp only [exV,Value.agg.injEq,Array.mk.injEq,List.cons.injEq,Value.int.injEq,Value.string.injEq,ByteArray.mk.injEq,true_and] at e
   simp [Ex.k,Ex.v,Ex.nm,← e.1,← e.2.1,← e.2.2.1,← e.2.2.2.1,← e.2.2.2.2.1]
  | args k' x' nm' b off cap xs' us =>
   obtain ⟨xk,xn,xs⟩:=x
   obtain ⟨xk',xn',xs''⟩:=x'
   simp only [exV,Value.agg.injEq,Array.mk.injEq,List.cons.injEq,Value.int.injEq,Value.string.injEq,ByteArray.mk.injEq,true_and] at e
   simp [Ex.k,Ex.v,Ex.nm,← e.1,← e.2.1,← e.2.2.1,← e.2.2.2.1,← e.2.2.2.2.1]
 exact go _ h rfl
theorem CmIn.one {B:Nat} {w:World} {c:Cm} {cv vv fv ea wa:Value} (h:CmIn B w c cv vv fv ea wa):∀ v ∈ cmL c cv vv fv ea wa,v.oneCell'=true:=by
 have h1:=h.cols.one
 have h2:=h.vals.one
 have h3:=h.fields.one
 have h4:=h.expr.one
 have h5:=h.wh.one
 intro v hv
 simp only [cmL,List.mem_cons,List.not_mem_nil,or_false] at hv
 rcases hv with rfl|rfl|rfl|rfl|rfl|rfl|rfl|rfl|rfl|rfl|rfl|rfl|rfl|rfl|rfl|rfl|rfl|rfl|rfl|rfl|rfl|rfl|rfl|rfl|rfl|rfl <;> first|rfl|assumption
theorem ypD (B:Nat) (w:World) (c:Cm) (h1:c.cols=[]) (h2:c.vals=[]) (h3:c.fields=[]) (h4:c.expr=ex0) (h5:c.wh=ex0):CmIn B w c (.slice none 0 0) (.slice none 0 0) (.slice none 0 0) (.slice none 0 0) (.slice none 0 0):=by
 refine ⟨?_, ?_, ?_, ?_, ?_⟩
 ·rw [h1];exact .nil _ _ _
 ·rw [h2];exact .nil _ _ _
 ·rw [h3];exact .nil _ _ _
 ·rw [h4];exact .nil _ _ _ _ _ (fun _=>rfl)
 ·rw [h5];exact .nil _ _ _ _ _ (fun _=>rfl)
theorem yoW:(#[.int .i64 0,.string ⟨#[]⟩,.string ⟨#[]⟩,.string ⟨#[]⟩,.slice none 0 0,.int .i64 0,.int .i64 0,.int .i64 0,.string ⟨#[]⟩,.slice none 0 0,.slice none 0 0,.int .i64 0,.int .i64 0,.int .i64 0,.string ⟨#[]⟩,.string ⟨#[]⟩,.slice none 0 0,.bool false,.int .i64 0,.int .i64 0,.int .i64 0,.string ⟨#[]⟩,.string ⟨#[]⟩,.slice none 0 0,.string ⟨#[]⟩,.int .i64 0]:Array Value)=(cmL cm0 (.slice none 0 0) (.slice none 0 0) (.slice none 0 0) (.slice none 0 0) (.slice none 0 0)).toArray:=rfl
theorem Tryz.alloc31 (w:World):(Instr.alloc 31 true (.tuple #[])).run Tryz.prog w=.ok (.pointer (some ⟨w.heap.size,0,none⟩)) (w.alloc (.cells (cmL cm0 (.slice none 0 0) (.slice none 0 0) (.slice none 0 0) (.slice none 0 0) (.slice none 0 0)).toArray 31)):=by
 rw [← yoW]
 simp [Instr.alloc,Tryz.zeroValue31,go_sem]
abbrev cmZ:List Value:=cmL cm0 (.slice none 0 0) (.slice none 0 0) (.slice none 0 0) (.slice none 0 0) (.slice none 0 0)
def yeT (k:Int):Bool:=decide (atL yaB k≠[])
def ybJ (x:Vl):Bool:=decide (ybT x.k x.n x.s=0)
def ydS (k:Int):Nat:=if k=3∨k=4 then 1 else if atL ya3 k≠[] then 2 else 0
def yff (c:Cl):Bool:=yan c.name&&yeT c.ty
theorem yfr (k:Int) (w:World):Calls Tryz.prog 74 #[.int .i64 k] w fun e w'=>e=.returned (.bool (yeT k))∧Below w.heap.size w w':=by
 have h:=yfw k w
 unfold yeT
 cases hn:decide (atL yaB k≠[])
 all_goals
  have hq:(atL yaB k).isEmpty=!(decide (atL yaB k≠[])):=by cases atL yaB k <;> simp
  rw [hn] at hq
  clear hn
  generalize atL yaB k=s at h hq
  go_enter Tryz.func74,Tryz.ntmps74
  go_wp2_with (go_at_call 123;refine h.mono ?_;rintro e w1 ⟨rfl,b1⟩)
  go_ret
  exact ⟨yaw (by simp),b1⟩
theorem ydk (x:Vl) (w:World) (hs:x.s.length≤140737488355328):Calls Tryz.prog 75 #[.agg #[.int .i64 x.k,.int .i64 x.n,.string ⟨x.s.toArray⟩]] w fun e w'=>e=.returned (.bool (ybJ x))∧Below w.heap.size w w':=by
 have h:=ykt x.k x.n ⟨x.s.toArray⟩ (w.alloc (.cells #[.int .i64 x.k,.int .i64 x.n,.string ⟨x.s.toArray⟩] 24)) (by rw [yam];exact hs)
 have e0:(⟨x.s.toArray⟩:ByteArray).data.toList=x.s:=by simp
 rw [e0] at h
 unfold ybJ
 generalize ybT x.k x.n x.s=c at h
 go_enter Tryz.func75,Tryz.ntmps75
 go_wp2_with (go_at_call 124;refine h.mono ?_;rintro e w1 ⟨rfl,b1⟩)
 go_ret
 refine ⟨yaw ?_,((Below.refl _ _).alloc (Nat.le_refl _) _).trans (b1.mono (by simp))⟩
 rw [Bool.eq_iff_iff];simp
theorem yfe (k:Int) (w:World):Calls Tryz.prog 128 #[.int .i64 k] w fun e w'=>e=.returned (.int .i64 (ydS k:Nat))∧Below w.heap.size w w':=by
 have h:=ydc k w
 by_cases h3:k=3
 ·subst h3
  go_enter Tryz.func128,Tryz.ntmps128
  go_wp2
  go_ret
  exact ⟨rfl,Below.refl _ _⟩
 by_cases h4:k=4
 ·subst h4
  go_enter Tryz.func128,Tryz.ntmps128
  go_wp2
  go_ret
  exact ⟨rfl,Below.refl _ _⟩
 have q3:(k == 3)=false:=by simpa using h3
 have q4:(k == 4)=false:=by simpa using h4
 have e:ydS k=if atL ya3 k≠[] then 2 else 0:=by rw [ydS,if_neg (by simp [h3,h4])]
 rw [e]
 clear h3 h4 e
 generalize atL ya3 k=s at h ⊢
 by_cases hs:s=[]
 ·subst hs
  go_enter Tryz.func128,Tryz.ntmps128
  go_wp2_with (go_at_call 138;refine h.mono ?_;rintro e w1 ⟨rfl,b1⟩)
  go_ret
  exact ⟨rfl,b1⟩
 ·have hq:s.isEmpty=false:=by simpa using hs
  rw [if_pos hs]
  go_enter Tryz.func128,Tryz.ntmps128
  go_wp2_with (go_at_call 138;refine h.mono ?_;rintro e w1 ⟨rfl,b1⟩)
  go_ret
  exact ⟨rfl,b1⟩
theorem ygA (x:Cl) (w:World) (hs:x.name.length≤140737488355328) {EP:Prop} (hl:LaidIf EP w):Calls Tryz.prog 122 #[.agg #[.string ⟨x.name.toArray⟩,.int .i64 x.ty]] w fun e w'=>e=.returned (.bool (yff x))∧Below w.heap.size w w':=by
 have b0:=(Below.refl w.heap.size w).alloc (Nat.le_refl _) (.cells #[.string ⟨x.name.toArray⟩,.int .i64 x.ty] 56)
 have h:=yc6 ⟨x.name.toArray⟩ (w.alloc (.cells #[.string ⟨x.name.toArray⟩,.int .i64 x.ty] 56)) (by rw [yam];exact hs) (hl.below b0)
 have e0:(⟨x.name.toArray⟩:ByteArray).data.toList=x.name:=by simp
 rw [e0] at h
 unfold yff
 cases hn:yan x.name
 ·rw [hn] at h
  go_enter Tryz.func122,Tryz.ntmps122
  go_wp2_with (go_at_call 72;refine h.mono ?_;rintro e w1 ⟨rfl,b1⟩)
  go_ret
  exact ⟨rfl,b0.trans (b1.mono (by simp))⟩
 ·rw [hn] at h
  have h2:=yfr x.ty
  generalize yeT x.ty=t at h2 ⊢
  go_enter Tryz.func122,Tryz.ntmps122
  go_wp2_with (go_at_call 72;refine h.mono ?_;rintro e w1 ⟨rfl,b1⟩;have d1:w1.cell? ⟨w.heap.size,1,none⟩=some (.int .i64 x.ty):=(b1.cell (by simp)).trans (by simp))
  refine (h2 _).mono ?_
  rintro e w2 ⟨rfl,b2⟩
  go_wp2
  go_ret
  exact ⟨rfl,(b0.trans (b1.mono (by simp))).trans (b2.mono (by have:=b1.size;simp at this;omega))⟩
theorem yiw (x:List UInt8) (fb:Nat) (B:Bool) (w:World) (hf:w.cell? ⟨fb,0,none⟩=some (.func (.func 72) #[] #[]))
  (hp:∀ W,Below w.heap.size w W→Calls Tryz.prog 72 #[.string ⟨x.toArray⟩] W fun e w'=>e=.returned (.bool B)∧Below W.heap.size W w') :
  Calls Tryz.prog 127 #[.string ⟨x.toArray⟩,.pointer (some ⟨fb,0,none⟩)] w fun e w'=>e=.returned (.bool !B)∧Below w.heap.size w w':=by
 have h1:=hp w (Below.refl _ _)
 clear hp
 go_enter Tryz.func127,Tryz.ntmps127
 go_wp2_with (go_at_call 72;refine h1.mono ?_;rintro e w1 ⟨rfl,b1⟩)
 go_ret
 exact ⟨rfl,b1⟩
theorem ynS (b off cap fb:Nat) (l:List (List UInt8)) (w:World) (hb:b < w.heap.size) (hfb:fb < w.heap.size) (hf:w.cell? ⟨fb,0,none⟩=some (.func (.func 72) #[] #[])) (hn:l.length≤1000000000000000)
  (hc:∀ (k:Nat) x,l[k]?=some x→w.cell? ⟨b,off+k,none⟩=some (.string ⟨x.toArray⟩))
  (hp:∀ (k:Nat) x,l[k]?=some x→∀ W,Below w.heap.size w W→Calls Tryz.prog 72 #[.string ⟨x.toArray⟩] W fun e w'=>e=.returned (.bool (yan x))∧Below W.heap.size W w') :
  Calls Tryz.prog 162 #[.slice (some ⟨b,off,none⟩) l.length cap,.func (.func 127) #[] #[.pointer (some ⟨fb,0,none⟩)]] w fun e w'=>(∃ r:Int,e=.returned (.int .i64 r)∧(decide (0≤r)=!(l.all yan)))∧Below w.heap.size w w':=by
 obtain ⟨n,hl⟩:∃ n,l.length=n:=⟨_,rfl⟩
 rw [hl] at hn ⊢
 go_enter Tryz.func162,Tryz.ntmps162
 go_wp2
 go_loopw [8] (fun i wr=>∃ k:Nat,k≤n∧i=.int .i64 k∧Below w.heap.size w wr∧Hid (∀ j x,j < k→l[j]?=some x→yan x=true)) (fun i _=>n - (intOf i).toNat)
 case atStart=>exact ⟨0,Nat.zero_le _,rfl,Below.refl _ _,fun j _ hj=>absurd hj (Nat.not_lt_zero _)⟩
 case round =>
  obtain ⟨k,hk,rfl,hnx,HA⟩:=hrel
  by_cases hlt:k < n
  ·obtain ⟨x,hx⟩:∃ x,l[k]?=some x:=⟨l[k],List.getElem?_eq_getElem (by omega)⟩
   obtain e0:=hc k x hx
   have a0:=(hnx.cell (p:=⟨b,off+k,none⟩) hb).trans e0
   have hlt':(k:Int) < (n:Int):=by omega
   have hff:=(hnx.cell (p:=⟨fb,0,none⟩) hfb).trans hf
   have hsz:=hnx.size
   have hpk:=hp k x hx
   have HX:Hid (l[k]?=some x):=hx
   clear hp hc hx e0 hf
   cases hB:yan x
   ·rw [hB] at hpk
    have hq:=yiw x fb false wr hff fun W hW=>hpk W (hnx.trans (hW.mono hsz))
    have HB:Hid (yan x=false):=hB
    clear hpk hB hff
    go_wp2_with (go_at_call 127;refine hq.mono ?_;rintro e w2 ⟨rfl,b2⟩)
    go_ret
    refine ⟨⟨(k:Nat),rfl, ?_⟩,hnx.trans (b2.mono hsz)⟩
    have:l.all yan=false:=by
     rw [List.all_eq_false]
     exact ⟨x,List.mem_of_getElem? HX.out,by simp [HB.out]⟩
    rw [this];simp
   ·rw [hB] at hpk
    have hq:=yiw x fb true wr hff fun W hW=>hpk W (hnx.trans (hW.mono hsz))
    have HB:Hid (yan x=true):=hB
    clear hpk hB hff
    go_wp2_with (go_at_call 127;refine hq.mono ?_;rintro e w2 ⟨rfl,b2⟩)
    go_roundw
    case rel =>
     refine ⟨k+1,by omega,by go_num,hnx.trans (b2.mono hsz),fun j y hj hy=>?_⟩
     rcases Nat.lt_or_ge j k with h|h
     ·exact HA.out j y h hy
     ·rw [show j=k by omega,HX.out] at hy;cases hy;exact HB.out
    case measure=>simp [intOf];omega
  ·clear hp hc
   go_wp2
   go_ret
   refine ⟨⟨-1,rfl, ?_⟩,hnx⟩
   have:l.all yan=true:=by
    rw [List.all_eq_true]
    intro x hx
    obtain ⟨j,hj⟩:=List.mem_iff_getElem?.1 hx
    exact HA.out j x (by have:=(List.getElem?_eq_some_iff.1 hj).1;omega) hj
   rw [this];simp
theorem ynU (ao:Option Addr) (cap:Nat) (f:Value) (w:World) :
  Calls Tryz.prog 162 #[.slice ao 0 cap,f] w fun e w'=>e=.returned (.int .i64 (-1))∧w'=w:=by
 go_enter Tryz.func162,Tryz.ntmps162
 go_wp2
 go_loopw [8] (fun k wr=>k=.int .i64 0∧wr=w) (fun _ _=>0)
 case atStart=>exact ⟨rfl,rfl⟩
 case round =>
  obtain ⟨rfl,rfl⟩:=hrel
  go_wp2
  go_ret
  exact ⟨rfl,rfl⟩
theorem ymY (ao:Option Addr) (cap:Nat) (f:Fn) (w:World) :
  Calls Tryz.prog 77 #[.slice ao 0 cap,.func f #[] #[]] w fun e w'=>e=.returned (.bool true)∧Below w.heap.size w w':=by
 have hm:=hmf
 go_enter Tryz.func77,Tryz.ntmps77
 go_wp2_with (first|(go_at_call 126;go_in)|(go_at_call 162;refine (ynU _ _ _ _).mono ?_;rintro e w1 ⟨rfl,rfl⟩))
 go_ret
 exact ⟨rfl,(Below.refl _ _).alloc (Nat.le_refl _) _⟩
theorem ypm (b off cap:Nat) (l:List (List UInt8)) (w:World) (hb:b < w.heap.size) (hn:l.length≤1000000000000000)
  (hc:∀ (k:Nat) x,l[k]?=some x→w.cell? ⟨b,off+k,none⟩=some (.string ⟨x.toArray⟩))
  (hp:∀ (k:Nat) x,l[k]?=some x→∀ W,Below w.heap.size w W→Calls Tryz.prog 72 #[.string ⟨x.toArray⟩] W fun e w'=>e=.returned (.bool (yan x))∧Below W.heap.size W w') :
  Calls Tryz.prog 77 #[.slice (some ⟨b,off,none⟩) l.length cap,.func (.func 72) #[] #[]] w fun e w'=>e=.returned (.bool (l.all yan))∧Below w.heap.size w w':=by
 have hm:=hmf
 have hi:∀ t,Calls Tryz.prog 162 #[.slice (some ⟨b,off,none⟩) l.length cap,.func (.func 127) #[] #[.pointer (some ⟨w.heap.size,0,none⟩)]] (w.alloc (.cells #[.func (.func 72) #[] #[]] t)) fun e w'=>(∃ r:Int,e=.returned (.int .i64 r)∧(decide (0≤r)=!(l.all yan)))∧Below w.heap.size w w':=by
  intro t
  have b0:=(Below.refl w.heap.size w).alloc (Nat.le_refl _) (.cells #[.func (.func 72) #[] #[]] t)
  refine (ynS b off cap w.heap.size l _ (by simp;omega) (by simp) (by simp) hn ?_ ?_).mono ?_
  ·intro k x hx
   have:=hc k x hx
   refine (ybn _ hb).trans this
  ·intro k x hx W hW
   exact hp k x hx W (b0.trans (hW.mono (by simp)))
  ·rintro e w' ⟨hr,hb⟩
   exact ⟨hr,b0.trans (hb.mono (by simp))⟩
 generalize l.all yan=A at hi ⊢
 clear hp hc
 go_enter Tryz.func77,Tryz.ntmps77
 go_wp2_with (first|(go_at_call 126;go_in)|(go_at_call 162;refine (hi _).mono ?_;rintro e w1 ⟨⟨r,rfl,hr⟩,b1⟩))
 go_ret
 exact ⟨yaw (by simp),b1⟩
theorem yiu (x:Cl) (fb:Nat) (B:Bool) (w:World) (hfb:fb < w.heap.size) (hf:w.cell? ⟨fb,0,none⟩=some (.func (.func 122) #[] #[]))
  (hp:∀ W,Below w.heap.size w W→Calls Tryz.prog 122 #[.agg #[.string ⟨x.name.toArray⟩,.int .i64 x.ty]] W fun e w'=>e=.returned (.bool B)∧Below W.heap.size W w') :
  Calls Tryz.prog 155 #[.agg #[.string ⟨x.name.toArray⟩,.int .i64 x.ty],.pointer (some ⟨fb,0,none⟩)] w fun e w'=>e=.returned (.bool !B)∧Below w.heap.size w w':=by
 have b0:=(Below.refl w.heap.size w).alloc (Nat.le_refl _) (.cells #[.string ⟨x.name.toArray⟩,.int .i64 x.ty] 56)
 have h1:=hp _ b0
 have hf0:∀ o,(w.alloc o).cell? ⟨fb,0,none⟩=some (.func (.func 122) #[] #[]):=fun o=>(ybn o hfb).trans hf
 clear hp
 go_enter Tryz.func155,Tryz.ntmps155
 go_wp2_with (go_at_call 122;refine h1.mono ?_;rintro e w1 ⟨rfl,b1⟩)
 go_ret
 exact ⟨rfl,b0.trans (b1.mono (by simp))⟩
theorem ynQ (b off cap fb:Nat) (l:List (Cl)) (w:World) (hb:b < w.heap.size) (hfb:fb < w.heap.size) (hf:w.cell? ⟨fb,0,none⟩=some (.func (.func 122) #[] #[])) (hn:l.length≤1000000000000000)
  (hc:∀ (k:Nat) x,l[k]?=some x→w.cell? ⟨b,off+k*2,none⟩=some (.string ⟨x.name.toArray⟩)∧w.cell? ⟨b,off+k*2+1,none⟩=some (.int .i64 x.ty))
  (hp:∀ (k:Nat) x,l[k]?=some x→∀ W,Below w.heap.size w W→Calls Tryz.prog 122 #[.agg #[.string ⟨x.name.toArray⟩,.int .i64 x.ty]] W fun e w'=>e=.returned (.bool (yff x))∧Below W.heap.size W w') :
  Calls Tryz.prog 176 #[.slice (some ⟨b,off,none⟩) l.length cap,.func (.func 155) #[] #[.pointer (some ⟨fb,0,none⟩)]] w fun e w'=>(∃ r:Int,e=.returned (.int .i64 r)∧(decide (0≤r)=!(l.all yff)))∧Below w.heap.size w w':=by
 obtain ⟨n,hl⟩:∃ n,l.length=n:=⟨_,rfl⟩
 rw [hl] at hn ⊢
 go_enter Tryz.func176,Tryz.ntmps176
 go_wp2
 go_loopw [8] (fun i wr=>∃ k:Nat,k≤n∧i=.int .i64 k∧Below w.heap.size w wr∧Hid (∀ j x,j < k→l[j]?=some x→yff x=true)) (fun i _=>n - (intOf i).toNat)
 case atStart=>exact ⟨0,Nat.zero_le _,rfl,Below.refl _ _,fun j _ hj=>absurd hj (Nat.not_lt_zero _)⟩
 case round =>
  obtain ⟨k,hk,rfl,hnx,HA⟩:=hrel
  by_cases hlt:k < n
  ·obtain ⟨x,hx⟩:∃ x,l[k]?=some x:=⟨l[k],List.getElem?_eq_getElem (by omega)⟩
   obtain ⟨e0,e1⟩:=hc k x hx
   have a0:=(hnx.cell (p:=⟨b,off+k*2,none⟩) hb).trans e0
   have a1:=(hnx.cell (p:=⟨b,off+k*2+1,none⟩) hb).trans e1
   have hlt':(k:Int) < (n:Int):=by omega
   have hff:=(hnx.cell (p:=⟨fb,0,none⟩) hfb).trans hf
   have hsz:=hnx.size
   have hpk:=hp k x hx
   have HX:Hid (l[k]?=some x):=hx
   clear hp hc hx e0 e1 hf
   cases hB:yff x
   ·rw [hB] at hpk
    have hq:=yiu x fb false wr (by omega) hff fun W hW=>hpk W (hnx.trans (hW.mono hsz))
    have HB:Hid (yff x=false):=hB
    clear hpk hB hff
    go_wp2_with (go_at_call 155;refine hq.mono ?_;rintro e w2 ⟨rfl,b2⟩)
    go_ret
    refine ⟨⟨(k:Nat),rfl, ?_⟩,hnx.trans (b2.mono hsz)⟩
    have:l.all yff=false:=by
     rw [List.all_eq_false]
     exact ⟨x,List.mem_of_getElem? HX.out,by simp [HB.out]⟩
    rw [this];simp
   ·rw [hB] at hpk
    have hq:=yiu x fb true wr (by omega) hff fun W hW=>hpk W (hnx.trans (hW.mono hsz))
    have HB:Hid (yff x=true):=hB
    clear hpk hB hff
    go_wp2_with (go_at_call 155;refine hq.mono ?_;rintro e w2 ⟨rfl,b2⟩)
    go_roundw
    case rel =>
     refine ⟨k+1,by omega,by go_num,hnx.trans (b2.mono hsz),fun j y hj hy=>?_⟩
     rcases Nat.lt_or_ge j k with h|h
     ·exact HA.out j y h hy
     ·rw [show j=k by omega,HX.out] at hy;cases hy;exact HB.out
    case measure=>simp [intOf];omega
  ·clear hp hc
   go_wp2
   go_ret
   refine ⟨⟨-1,rfl, ?_⟩,hnx⟩
   have:l.all yff=true:=by
    rw [List.all_eq_true]
    intro x hx
    obtain ⟨j,hj⟩:=List.mem_iff_getElem?.1 hx
    exact HA.out j x (by have:=(List.getElem?_eq_some_iff.1 hj).1;omega) hj
   rw [this];simp
theorem ypk (b off cap:Nat) (l:List (Cl)) (w:World) (hb:b < w.heap.size) (hn:l.length≤1000000000000000)
  (hc:∀ (k:Nat) x,l[k]?=some x→w.cell? ⟨b,off+k*2,none⟩=some (.string ⟨x.name.toArray⟩)∧w.cell? ⟨b,off+k*2+1,none⟩=some (.int .i64 x.ty))
  (hp:∀ (k:Nat) x,l[k]?=some x→∀ W,Below w.heap.size w W→Calls Tryz.prog 122 #[.agg #[.string ⟨x.name.toArray⟩,.int .i64 x.ty]] W fun e w'=>e=.returned (.bool (yff x))∧Below W.heap.size W w') :
  Calls Tryz.prog 121 #[.slice (some ⟨b,off,none⟩) l.length cap,.func (.func 122) #[] #[]] w fun e w'=>e=.returned (.bool (l.all yff))∧Below w.heap.size w w':=by
 have hm:=hmf
 have hi:∀ t,Calls Tryz.prog 176 #[.slice (some ⟨b,off,none⟩) l.length cap,.func (.func 155) #[] #[.pointer (some ⟨w.heap.size,0,none⟩)]] (w.alloc (.cells #[.func (.func 122) #[] #[]] t)) fun e w'=>(∃ r:Int,e=.returned (.int .i64 r)∧(decide (0≤r)=!(l.all yff)))∧Below w.heap.size w w':=by
  intro t
  have b0:=(Below.refl w.heap.size w).alloc (Nat.le_refl _) (.cells #[.func (.func 122) #[] #[]] t)
  refine (ynQ b off cap w.heap.size l _ (by simp;omega) (by simp) (by simp) hn ?_ ?_).mono ?_
  ·intro k x hx
   have:=hc k x hx
   refine ⟨(ybn _ hb).trans this.1,(ybn _ hb).trans this.2⟩
  ·intro k x hx W hW
   exact hp k x hx W (b0.trans (hW.mono (by simp)))
  ·rintro e w' ⟨hr,hb⟩
   exact ⟨hr,b0.trans (hb.mono (by simp))⟩
 generalize l.all yff=A at hi ⊢
 clear hp hc
 go_enter Tryz.func121,Tryz.ntmps121
 go_wp2_with (first|(go_at_call 154;go_in)|(go_at_call 176;refine (hi _).mono ?_;rintro e w1 ⟨⟨r,rfl,hr⟩,b1⟩))
 go_ret
 exact ⟨yaw (by simp),b1⟩
theorem yix (x:Vl) (fb:Nat) (B:Bool) (w:World) (hfb:fb < w.heap.size) (hf:w.cell? ⟨fb,0,none⟩=some (.func (.func 75) #[] #[]))
  (hp:∀ W,Below w.heap.size w W→Calls Tryz.prog 75 #[.agg #[.int .i64 x.k,.int .i64 x.n,.string ⟨x.s.toArray⟩]] W fun e w'=>e=.returned (.bool B)∧Below W.heap.size W w') :
  Calls Tryz.prog 161 #[.agg #[.int .i64 x.k,.int .i64 x.n,.string ⟨x.s.toArray⟩],.pointer (some ⟨fb,0,none⟩)] w fun e w'=>e=.returned (.bool !B)∧Below w.heap.size w w':=by
 have b0:=(Below.refl w.heap.size w).alloc (Nat.le_refl _) (.cells #[.int .i64 x.k,.int .i64 x.n,.string ⟨x.s.toArray⟩] 24)
 have h1:=hp _ b0
 have hf0:∀ o,(w.alloc o).cell? ⟨fb,0,none⟩=some (.func (.func 75) #[] #[]):=fun o=>(ybn o hfb).trans hf
 clear hp
 go_enter Tryz.func161,Tryz.ntmps161
 go_wp2_with (go_at_call 75;refine h1.mono ?_;rintro e w1 ⟨rfl,b1⟩)
 go_ret
 exact ⟨rfl,b0.trans (b1.mono (by simp))⟩
theorem ynT (b off cap fb:Nat) (l:List (Vl)) (w:World) (hb:b < w.heap.size) (hfb:fb < w.heap.size) (hf:w.cell? ⟨fb,0,none⟩=some (.func (.func 75) #[] #[])) (hn:l.length≤1000000000000000)
  (hc:∀ (k:Nat) x,l[k]?=some x→w.cell? ⟨b,off+k*3,none⟩=some (.int .i64 x.k)∧w.cell? ⟨b,off+k*3+1,none⟩=some (.int .i64 x.n)∧w.cell? ⟨b,off+k*3+2,none⟩=some (.string ⟨x.s.toArray⟩))
  (hp:∀ (k:Nat) x,l[k]?=some x→∀ W,Below w.heap.size w W→Calls Tryz.prog 75 #[.agg #[.int .i64 x.k,.int .i64 x.n,.string ⟨x.s.toArray⟩]] W fun e w'=>e=.returned (.bool (ybJ x))∧Below W.heap.size W w') :
  Calls Tryz.prog 177 #[.slice (some ⟨b,off,none⟩) l.length cap,.func (.func 161) #[] #[.pointer (some ⟨fb,0,none⟩)]] w fun e w'=>(∃ r:Int,e=.returned (.int .i64 r)∧(decide (0≤r)=!(l.all ybJ)))∧Below w.heap.size w w':=by
 obtain ⟨n,hl⟩:∃ n,l.length=n:=⟨_,rfl⟩
 rw [hl] at hn ⊢
 go_enter Tryz.func177,Tryz.ntmps177
 go_wp2
 go_loopw [8] (fun i wr=>∃ k:Nat,k≤n∧i=.int .i64 k∧Below w.heap.size w wr∧Hid (∀ j x,j < k→l[j]?=some x→ybJ x=true)) (fun i _=>n - (intOf i).toNat)
 case atStart=>exact ⟨0,Nat.zero_le _,rfl,Below.refl _ _,fun j _ hj=>absurd hj (Nat.not_lt_zero _)⟩
 case round =>
  obtain ⟨k,hk,rfl,hnx,HA⟩:=hrel
  by_cases hlt:k < n
  ·obtain ⟨x,hx⟩:∃ x,l[k]?=some x:=⟨l[k],List.getElem?_eq_getElem (by omega)⟩
   obtain ⟨e0,e1,e2⟩:=hc k x hx
   have a0:=(hnx.cell (p:=⟨b,off+k*3,none⟩) hb).trans e0
   have a1:=(hnx.cell (p:=⟨b,off+k*3+1,none⟩) hb).trans e1
   have a2:=(hnx.cell (p:=⟨b,off+k*3+2,none⟩) hb).trans e2
   have hlt':(k:Int) < (n:Int):=by omega
   have hff:=(hnx.cell (p:=⟨fb,0,none⟩) hfb).trans hf
   have hsz:=hnx.size
   have hpk:=hp k x hx
   have HX:Hid (l[k]?=some x):=hx
   clear hp hc hx e0 e1 e2 hf
   cases hB:ybJ x
   ·rw [hB] at hpk
    have hq:=yix x fb false wr (by omega) hff fun W hW=>hpk W (hnx.trans (hW.mono hsz))
    have HB:Hid (ybJ x=false):=hB
    clear hpk hB hff
    go_wp2_with (go_at_call 161;refine hq.mono ?_;rintro e w2 ⟨rfl,b2⟩)
    go_ret
    refine ⟨⟨(k:Nat),rfl, ?_⟩,hnx.trans (b2.mono hsz)⟩
    have:l.all ybJ=false:=by
     rw [List.all_eq_false]
     exact ⟨x,List.mem_of_getElem? HX.out,by simp [HB.out]⟩
    rw [this];simp
   ·rw [hB] at hpk
    have hq:=yix x fb true wr (by omega) hff fun W hW=>hpk W (hnx.trans (hW.mono hsz))
    have HB:Hid (ybJ x=true):=hB
    clear hpk hB hff
    go_wp2_with (go_at_call 161;refine hq.mono ?_;rintro e w2 ⟨rfl,b2⟩)
    go_roundw
    case rel =>
     refine ⟨k+1,by omega,by go_num,hnx.trans (b2.mono hsz),fun j y hj hy=>?_⟩
     rcases Nat.lt_or_ge j k with h|h
     ·exact HA.out j y h hy
     ·rw [show j=k by omega,HX.out] at hy;cases hy;exact HB.out
    case measure=>simp [intOf];omega
  ·clear hp hc
   go_wp2
   go_ret
   refine ⟨⟨-1,rfl, ?_⟩,hnx⟩
   have:l.all ybJ=true:=by
    rw [List.all_eq_true]
    intro x hx
    obtain ⟨j,hj⟩:=List.mem_iff_getElem?.1 hx
    exact HA.out j x (by have:=(List.getElem?_eq_some_iff.1 hj).1;omega) hj
   rw [this];simp
theorem ypn (b off cap:Nat) (l:List (Vl)) (w:World) (hb:b < w.heap.size) (hn:l.length≤1000000000000000)
  (hc:∀ (k:Nat) x,l[k]?=some x→w.cell? ⟨b,off+k*3,none⟩=some (.int .i64 x.k)∧w.cell? ⟨b,off+k*3+1,none⟩=some (.int .i64 x.n)∧w.cell? ⟨b,off+k*3+2,none⟩=some (.string ⟨x.s.toArray⟩))
  (hp:∀ (k:Nat) x,l[k]?=some x→∀ W,Below w.heap.size w W→Calls Tryz.prog 75 #[.agg #[.int .i64 x.k,.int .i64 x.n,.string ⟨x.s.toArray⟩]] W fun e w'=>e=.returned (.bool (ybJ x))∧Below W.heap.size W w') :
  Calls Tryz.prog 125 #[.slice (some ⟨b,off,none⟩) l.length cap,.func (.func 75) #[] #[]] w fun e w'=>e=.returned (.bool (l.all ybJ))∧Below w.heap.size w w':=by
 have hm:=hmf
 have hi:∀ t,Calls Tryz.prog 177 #[.slice (some ⟨b,off,none⟩) l.length cap,.func (.func 161) #[] #[.pointer (some ⟨w.heap.size,0,none⟩)]] (w.alloc (.cells #[.func (.func 75) #[] #[]] t)) fun e w'=>(∃ r:Int,e=.returned (.int .i64 r)∧(decide (0≤r)=!(l.all ybJ)))∧Below w.heap.size w w':=by
  intro t
  have b0:=(Below.refl w.heap.size w).alloc (Nat.le_refl _) (.cells #[.func (.func 75) #[] #[]] t)
  refine (ynT b off cap w.heap.size l _ (by simp;omega) (by simp) (by simp) hn ?_ ?_).mono ?_
  ·intro k x hx
   have:=hc k x hx
   refine ⟨(ybn _ hb).trans this.1,(ybn _ hb).trans this.2.1,(ybn _ hb).trans this.2.2⟩
  ·intro k x hx W hW
   exact hp k x hx W (b0.trans (hW.mono (by simp)))
  ·rintro e w' ⟨hr,hb⟩
   exact ⟨hr,b0.trans (hb.mono (by simp))⟩
 generalize l.all ybJ=A at hi ⊢
 clear hp hc
 go_enter Tryz.func125,Tryz.ntmps125
 go_wp2_with (first|(go_at_call 160;go_in)|(go_at_call 177;refine (hi _).mono ?_;rintro e w1 ⟨⟨r,rfl,hr⟩,b1⟩))
 go_ret
 exact ⟨yaw (by simp),b1⟩
theorem yiv (ao:Option Addr) (na ca:Nat) (x:Ex) (fb:Nat) (B:Bool) (w:World) (hfb:fb < w.heap.size) (hf:w.cell? ⟨fb,0,none⟩=some (.func (.func 78) #[] #[]))
  (hp:∀ W,Below w.heap.size w W→Calls Tryz.prog 78 #[.agg #[.int .i64 x.k,.int .i64 x.v.k,.int .i64 x.v.n,.string ⟨x.v.s.toArray⟩,.string ⟨x.nm.toArray⟩,.slice ao na ca]] W fun e w'=>e=.returned (.bool B)∧Below W.heap.size W w') :
  Calls Tryz.prog 164 #[.agg #[.int .i64 x.k,.int .i64 x.v.k,.int .i64 x.v.n,.string ⟨x.v.s.toArray⟩,.string ⟨x.nm.toArray⟩,.slice ao na ca],.pointer (some ⟨fb,0,none⟩)] w fun e w'=>e=.returned (.bool !B)∧Below w.heap.size w w':=by
 have b0:=(Below.refl w.heap.size w).alloc (Nat.le_refl _) (.cells #[.int .i64 x.k,.int .i64 x.v.k,.int .i64 x.v.n,.string ⟨x.v.s.toArray⟩,.string ⟨x.nm.toArray⟩,.slice ao na ca] 29)
 have h1:=hp _ b0
 have hf0:∀ o,(w.alloc o).cell? ⟨fb,0,none⟩=some (.func (.func 78) #[] #[]):=fun o=>(ybn o hfb).trans hf
 clear hp
 go_enter Tryz.func164,Tryz.ntmps164
 go_wp2_with (go_at_call 78;refine h1.mono ?_;rintro e w1 ⟨rfl,b1⟩)
 go_ret
 exact ⟨rfl,b0.trans (b1.mono (by simp))⟩
theorem ynR (ao:Nat→Option Addr) (na ca:Nat→Nat) (pp:Ex→Bool) (b off cap fb:Nat) (l:List (Ex)) (w:World) (hb:b < w.heap.size) (hfb:fb < w.heap.size) (hf:w.cell? ⟨fb,0,none⟩=some (.func (.func 78) #[] #[])) (hn:l.length≤1000000000000000)
  (hc:∀ (k:Nat) x,l[k]?=some x→w.cell? ⟨b,off+k*6,none⟩=some (.int .i64 x.k)∧w.cell? ⟨b,off+k*6+1,none⟩=some (.int .i64 x.v.k)∧w.cell? ⟨b,off+k*6+2,none⟩=some (.int .i64 x.v.n)∧w.cell? ⟨b,off+k*6+3,none⟩=some (.string ⟨x.v.s.toArray⟩)∧w.cell? ⟨b,off+k*6+4,none⟩=some (.string ⟨x.nm.toArray⟩)∧w.cell? ⟨b,off+k*6+5,none⟩=some (.slice (ao k) (na k) (ca k)))
  (hp:∀ (k:Nat) x,l[k]?=some x→∀ W,Below w.heap.size w W→Calls Tryz.prog 78 #[.agg #[.int .i64 x.k,.int .i64 x.v.k,.int .i64 x.v.n,.string ⟨x.v.s.toArray⟩,.string ⟨x.nm.toArray⟩,.slice (ao k) (na k) (ca k)]] W fun e w'=>e=.returned (.bool (pp x))∧Below W.heap.size W w') :
  Calls Tryz.prog 178 #[.slice (some ⟨b,off,none⟩) l.length cap,.func (.func 164) #[] #[.pointer (some ⟨fb,0,none⟩)]] w fun e w'=>(∃ r:Int,e=.returned (.int .i64 r)∧(decide (0≤r)=!(l.all pp)))∧Below w.heap.size w w':=by
 obtain ⟨n,hl⟩:∃ n,l.length=n:=⟨_,rfl⟩
 rw [hl] at hn ⊢
 go_enter Tryz.func178,Tryz.ntmps178
 go_wp2
 go_loopw [8] (fun i wr=>∃ k:Nat,k≤n∧i=.int .i64 k∧Below w.heap.size w wr∧Hid (∀ j x,j < k→l[j]?=some x→pp x=true)) (fun i _=>n - (intOf i).toNat)
 case atStart=>exact ⟨0,Nat.zero_le _,rfl,Below.refl _ _,fun j _ hj=>absurd hj (Nat.not_lt_zero _)⟩
 case round =>
  obtain ⟨k,hk,rfl,hnx,HA⟩:=hrel
  by_cases hlt:k < n
  ·obtain ⟨x,hx⟩:∃ x,l[k]?=some x:=⟨l[k],List.getElem?_eq_getElem (by omega)⟩
   obtain ⟨e0,e1,e2,e3,e4,e5⟩:=hc k x hx
   have a0:=(hnx.cell (p:=⟨b,off+k*6,none⟩) hb).trans e0
   have a1:=(hnx.cell (p:=⟨b,off+k*6+1,none⟩) hb).trans e1
   have a2:=(hnx.cell (p:=⟨b,off+k*6+2,none⟩) hb).trans e2
   have a3:=(hnx.cell (p:=⟨b,off+k*6+3,none⟩) hb).trans e3
   have a4:=(hnx.cell (p:=⟨b,off+k*6+4,none⟩) hb).trans e4
   have a5:=(hnx.cell (p:=⟨b,off+k*6+5,none⟩) hb).trans e5
   have hlt':(k:Int) < (n:Int):=by omega
   have hff:=(hnx.cell (p:=⟨fb,0,none⟩) hfb).trans hf
   have hsz:=hnx.size
   have hpk:=hp k x hx
   have HX:Hid (l[k]?=some x):=hx
   clear hp hc hx e0 e1 e2 e3 e4 e5 hf
   cases hB:pp x
   ·rw [hB] at hpk
    have hq:=yiv (ao k) (na k) (ca k) x fb false wr (by omega) hff fun W hW=>hpk W (hnx.trans (hW.mono hsz))
    have HB:Hid (pp x=false):=hB
    clear hpk hB hff
    go_wp2_with (go_at_call 164;refine hq.mono ?_;rintro e w2 ⟨rfl,b2⟩)
    go_ret
    refine ⟨⟨(k:Nat),rfl, ?_⟩,hnx.trans (b2.mono hsz)⟩
    have:l.all pp=false:=by
     rw [List.all_eq_false]
     exact ⟨x,List.mem_of_getElem? HX.out,by simp [HB.out]⟩
    rw [this];simp
   ·rw [hB] at hpk
    have hq:=yiv (ao k) (na k) (ca k) x fb true wr (by omega) hff fun W hW=>hpk W (hnx.trans (hW.mono hsz))
    have HB:Hid (pp x=true):=hB
    clear hpk hB hff
    go_wp2_with (go_at_call 164;refine hq.mono ?_;rintro e w2 ⟨rfl,b2⟩)
    go_roundw
    case rel =>
     refine ⟨k+1,by omega,by go_num,hnx.trans (b2.mono hsz),fun j y hj hy=>?_⟩
     rcases Nat.lt_or_ge j k with h|h
     ·exact HA.out j y h hy
     ·rw [show j=k by omega,HX.out] at hy;cases hy;exact HB.out
    case measure=>simp [intOf];omega
  ·clear hp hc
   go_wp2
   go_ret
   refine ⟨⟨-1,rfl, ?_⟩,hnx⟩
   have:l.all pp=true:=by
    rw [List.all_eq_true]
    intro x hx
    obtain ⟨j,hj⟩:=List.mem_iff_getElem?.1 hx
    exact HA.out j x (by have:=(List.getElem?_eq_some_iff.1 hj).1;omega) hj
   rw [this];simp
theorem ypl (ao:Nat→Option Addr) (na ca:Nat→Nat) (pp:Ex→Bool) (b off cap:Nat) (l:List (Ex)) (w:World) (hb:b < w.heap.size) (hn:l.length≤1000000000000000)
  (hc:∀ (k:Nat) x,l[k]?=some x→w.cell? ⟨b,off+k*6,none⟩=some (.int .i64 x.k)∧w.cell? ⟨b,off+k*6+1,none⟩=some (.int .i64 x.v.k)∧w.cell? ⟨b,off+k*6+2,none⟩=some (.int .i64 x.v.n)∧w.cell? ⟨b,off+k*6+3,none⟩=some (.string ⟨x.v.s.toArray⟩)∧w.cell? ⟨b,off+k*6+4,none⟩=some (.string ⟨x.nm.toArray⟩)∧w.cell? ⟨b,off+k*6+5,none⟩=some (.slice (ao k) (na k) (ca k)))
  (hp:∀ (k:Nat) x,l[k]?=some x→∀ W,Below w.heap.size w W→Calls Tryz.prog 78 #[.agg #[.int .i64 x.k,.int .i64 x.v.k,.int .i64 x.v.n,.string ⟨x.v.s.toArray⟩,.string ⟨x.nm.toArray⟩,.slice (ao k) (na k) (ca k)]] W fun e w'=>e=.returned (.bool (pp x))∧Below W.heap.size W w') :
  Calls Tryz.prog 129 #[.slice (some ⟨b,off,none⟩) l.length cap,.func (.func 78) #[] #[]] w fun e w'=>e=.returned (.bool (l.all pp))∧Below w.heap.size w w':=by
 have hm:=hmf
 have hi:∀ t,Calls Tryz.prog 178 #[.slice (some ⟨b,off,none⟩) l.length cap,.func (.func 164) #[] #[.pointer (some ⟨w.heap.size,0,none⟩)]] (w.alloc (.cells #[.func (.func 78) #[] #[]] t)) fun e w'=>(∃ r:Int,e=.returned (.int .i64 r)∧(decide (0≤r)=!(l.all pp)))∧Below w.heap.size w w':=by
  intro t
  have b0:=(Below.refl w.heap.size w).alloc (Nat.le_refl _) (.cells #[.func (.func 78) #[] #[]] t)
  refine (ynR ao na ca pp b off cap w.heap.size l _ (by simp;omega) (by simp) (by simp) hn ?_ ?_).mono ?_
  ·intro k x hx
   have:=hc k x hx
   refine ⟨(ybn _ hb).trans this.1,(ybn _ hb).trans this.2.1,(ybn _ hb).trans this.2.2.1,(ybn _ hb).trans this.2.2.2.1,(ybn _ hb).trans this.2.2.2.2.1,(ybn _ hb).trans this.2.2.2.2.2⟩
  ·intro k x hx W hW
   exact hp k x hx W (b0.trans (hW.mono (by simp)))
  ·rintro e w' ⟨hr,hb⟩
   exact ⟨hr,b0.trans (hb.mono (by simp))⟩
 generalize l.all pp=A at hi ⊢
 clear hp hc
 go_enter Tryz.func129,Tryz.ntmps129
 go_wp2_with (first|(go_at_call 163;go_in)|(go_at_call 178;refine (hi _).mono ?_;rintro e w1 ⟨⟨r,rfl,hr⟩,b1⟩))
 go_ret
 exact ⟨yaw (by simp),b1⟩
theorem Tryz.fields24:(Tryz.prog.fieldsOf 24).toList.map (fun f=>(f.name,f.type,f.offset))=[("Kind",3,0),("N",3,1),("S",9,2)]:=by kernel_rfl
theorem Tryz.under24:Tryz.prog.underlying 24=some (.struct (Tryz.prog.fieldsOf 24)):=by kernel_rfl
theorem Tryz.stood24:Tryz.prog.stoodInHeld 24=false:=by kernel_rfl
theorem yi6 (k a k' a':Int) (t t':ByteArray) (w:World) :
  (binOp .eql 24 (.agg #[.int .i64 k,.int .i64 a,.string t]) (.agg #[.int .i64 k',.int .i64 a',.string t'])).run Tryz.prog w=.ok (.bool (ycX k a t k' a' t')) w:=by
 rw [run_eql_struct,run_equalIn_struct w 9999 24 _ _ Tryz.under24 Tryz.stood24]
 obtain ⟨f0,f1,f2,hf,n0,t0,o0,n1,t1,o1,n2,t2,o2⟩:=ycT Tryz.fields24
 rw [hf]
 simp [Op.eqFields,n0,t0,o0,n1,t1,o1,n2,t2,o2,go_sem]
 unfold ycX
 by_cases h1:k=k' <;> by_cases h2:a=a' <;> by_cases h3:t.toList=t'.toList <;> simp [h1,h2,h3]
def ybu (x:Vl):Bool:=decide (x.k=0)&&decide (x.n=0)&&decide (x.s=[])
theorem yqR (x:Vl):ycX x.k x.n ⟨x.s.toArray⟩ 0 0 ⟨#[]⟩=ybu x:=by
 unfold ycX ybu
 have e1:(⟨x.s.toArray⟩:ByteArray).toList=x.s:=by rw [Lib.toList_data]
 have e2:(⟨#[]⟩:ByteArray).toList=[]:=by rw [Lib.toList_data]
 rw [e1,e2,Bool.eq_iff_iff]
 simp
def Ex.args:Ex→List Ex|.mk _ _ _ a=>a
def ybe (x:Ex):Bool:=decide (x.k=0)&&ybu x.v&&decide (x.nm=[])&&decide (x.args=[])
theorem yfp (x:Ex) (ao:Option Addr) (ca:Nat) (w:World) :
  Calls Tryz.prog 79 #[.agg #[.int .i64 x.k,.int .i64 x.v.k,.int .i64 x.v.n,.string ⟨x.v.s.toArray⟩,.string ⟨x.nm.toArray⟩,.slice ao x.args.length ca]] w fun e w'=>e=.returned (.bool (ybe x))∧Below w.heap.size w w':=by
 have hq:=yi6
 have hs:=yqR x.v
 unfold ybe
 generalize ybu x.v=B at hs ⊢
 have hk:(x.k == 0)=decide (x.k=0):=by rw [Bool.eq_iff_iff];simp
 have hn:x.nm.isEmpty=decide (x.nm=[]):=by cases x.nm <;> simp
 have ha:((x.args.length:Int) == 0)=decide (x.args=[]):=by rw [Bool.eq_iff_iff];cases x.args <;> simp;omega
 generalize decide (x.k=0)=K at hk ⊢
 generalize decide (x.nm=[])=M at hn ⊢
 generalize decide (x.args=[])=A at ha ⊢
 cases K <;> cases B <;> cases M
 all_goals
  go_enter Tryz.func79,Tryz.ntmps79
  go_wp2
  go_ret
  refine ⟨yaw ?_,(Below.refl _ _).alloc (Nat.le_refl _) _⟩
  first|rfl|simp_all
end Go.Proofs.YtkpeklealgicpabGreatDoor
