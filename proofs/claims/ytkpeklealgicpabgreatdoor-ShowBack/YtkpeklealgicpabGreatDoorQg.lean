/-
  'hasMany' of package command.
  The document's SameValue and SameValues, of any values in memory.
  The document's SameExpr, of any expressions in memory.
  What Check takes, and what the document's Check takes: they are the same.
  Regions that draw their order, of which nothing is wanted any more: whatever the order, each slot that is not guarded holds false.
  'isRight' of package command.
  The document's SameCmd, of one command in memory twice.
  slices.Equal, of lists of columns, of values, of strings.
  slices.Equal, of lists of strings.
  The program's sameExpr, of any expressions in memory.
  The program's Same: of two commands that are alike, and of two of another kind.
  'Check' of package command, out of what 'hasMany' and 'isRight' answer.
  Regions that draw their order, with calls: what each operation leaves is known beforehand; whatever the order, that is what is left.
  The region of 'isRight', and what its operations do one by one.
  What the operations of isRight's region do.
-/
import Derived.Deep.RegionHeld3
import Derived.Test.YtkpeklealgicpabGreatDoorQa
import Derived.Test.YtkpeklealgicpabGreatDoorQf

set_option maxRecDepth 100000
set_option maxHeartbeats 8000000
namespace Go.Proofs.YtkpeklealgicpabGreatDoor
open Go.RowKit
def ybQ (c:Cm):Bool:=decide (5 < c.cols.length∨5 < c.vals.length∨5 < c.fields.length) || decide (15 < ya4 c.expr) || decide (15 < ya4 c.wh)
theorem yic {w:World} (c:Cm) (a1 a2 a3 a4 a5:Option Addr) (c1 c2 c3 c4 c5:Nat) (he:ExAt 0 w (exV c.expr.k c.expr.v c.expr.nm (.slice a4 c.expr.args.length c4)) c.expr) (hw:ExAt 0 w (exV c.wh.k c.wh.v c.wh.nm (.slice a5 c.wh.args.length c5)) c.wh) (fe:Fit c.expr) (fw:Fit c.wh) :
  Calls Tryz.prog 28 #[.agg (cmL c (.slice a1 c.cols.length c1) (.slice a2 c.vals.length c2) (.slice a3 c.fields.length c3) (.slice a4 c.expr.args.length c4) (.slice a5 c.wh.args.length c5)).toArray] w fun e w'=>e=.returned (.bool (ybQ c))∧Below w.heap.size w w':=by
 have b0:=(Below.refl w.heap.size w).alloc (Nat.le_refl _) (.cells (cmL c (.slice a1 c.cols.length c1) (.slice a2 c.vals.length c2) (.slice a3 c.fields.length c3) (.slice a4 c.expr.args.length c4) (.slice a5 c.wh.args.length c5)).toArray 31)
 have d4:(w.alloc (.cells (cmL c (.slice a1 c.cols.length c1) (.slice a2 c.vals.length c2) (.slice a3 c.fields.length c3) (.slice a4 c.expr.args.length c4) (.slice a5 c.wh.args.length c5)).toArray 31)).cell? ⟨w.heap.size,4,none⟩=some (.slice a1 c.cols.length c1):=(Lib.cell_of_heap (heap_alloc_new w (.cells (cmL c (.slice a1 c.cols.length c1) (.slice a2 c.vals.length c2) (.slice a3 c.fields.length c3) (.slice a4 c.expr.args.length c4) (.slice a5 c.wh.args.length c5)).toArray 31)) 4).trans rfl
 have d9:(w.alloc (.cells (cmL c (.slice a1 c.cols.length c1) (.slice a2 c.vals.length c2) (.slice a3 c.fields.length c3) (.slice a4 c.expr.args.length c4) (.slice a5 c.wh.args.length c5)).toArray 31)).cell? ⟨w.heap.size,9,none⟩=some (.slice a2 c.vals.length c2):=(Lib.cell_of_heap (heap_alloc_new w (.cells (cmL c (.slice a1 c.cols.length c1) (.slice a2 c.vals.length c2) (.slice a3 c.fields.length c3) (.slice a4 c.expr.args.length c4) (.slice a5 c.wh.args.length c5)).toArray 31)) 9).trans rfl
 have d10:(w.alloc (.cells (cmL c (.slice a1 c.cols.length c1) (.slice a2 c.vals.length c2) (.slice a3 c.fields.length c3) (.slice a4 c.expr.args.length c4) (.slice a5 c.wh.args.length c5)).toArray 31)).cell? ⟨w.heap.size,10,none⟩=some (.slice a3 c.fields.length c3):=(Lib.cell_of_heap (heap_alloc_new w (.cells (cmL c (.slice a1 c.cols.length c1) (.slice a2 c.vals.length c2) (.slice a3 c.fields.length c3) (.slice a4 c.expr.args.length c4) (.slice a5 c.wh.args.length c5)).toArray 31)) 10).trans rfl
 have d11:(w.alloc (.cells (cmL c (.slice a1 c.cols.length c1) (.slice a2 c.vals.length c2) (.slice a3 c.fields.length c3) (.slice a4 c.expr.args.length c4) (.slice a5 c.wh.args.length c5)).toArray 31)).cell? ⟨w.heap.size,11,none⟩=some (.int .i64 c.expr.k):=(Lib.cell_of_heap (heap_alloc_new w (.cells (cmL c (.slice a1 c.cols.length c1) (.slice a2 c.vals.length c2) (.slice a3 c.fields.length c3) (.slice a4 c.expr.args.length c4) (.slice a5 c.wh.args.length c5)).toArray 31)) 11).trans rfl
 have d12:(w.alloc (.cells (cmL c (.slice a1 c.cols.length c1) (.slice a2 c.vals.length c2) (.slice a3 c.fields.length c3) (.slice a4 c.expr.args.length c4) (.slice a5 c.wh.args.length c5)).toArray 31)).cell? ⟨w.heap.size,12,none⟩=some (.int .i64 c.expr.v.k):=(Lib.cell_of_heap (heap_alloc_new w (.cells (cmL c (.slice a1 c.cols.length c1) (.slice a2 c.vals.length c2) (.slice a3 c.fields.length c3) (.slice a4 c.expr.args.length c4) (.slice a5 c.wh.args.length c5)).toArray 31)) 12).trans rfl
 have d13:(w.alloc (.cells (cmL c (.slice a1 c.cols.length c1) (.slice a2 c.vals.length c2) (.slice a3 c.fields.length c3) (.slice a4 c.expr.args.length c4) (.slice a5 c.wh.args.length c5)).toArray 31)).cell? ⟨w.heap.size,13,none⟩=some (.int .i64 c.expr.v.n):=(Lib.cell_of_heap (heap_alloc_new w (.cells (cmL c (.slice a1 c.cols.length c1) (.slice a2 c.vals.length c2) (.slice a3 c.fields.length c3) (.slice a4 c.expr.args.length c4) (.slice a5 c.wh.args.length c5)).toArray 31)) 13).trans rfl
 have d14:(w.alloc (.cells (cmL c (.slice a1 c.cols.length c1) (.slice a2 c.vals.length c2) (.slice a3 c.fields.length c3) (.slice a4 c.expr.args.length c4) (.slice a5 c.wh.args.length c5)).toArray 31)).cell? ⟨w.heap.size,14,none⟩=some (.string ⟨c.expr.v.s.toArray⟩):=(Lib.cell_of_heap (heap_alloc_new w (.cells (cmL c (.slice a1 c.cols.length c1) (.slice a2 c.vals.length c2) (.slice a3 c.fields.length c3) (.slice a4 c.expr.args.length c4) (.slice a5 c.wh.args.length c5)).toArray 31)) 14).trans rfl
 have d15:(w.alloc (.cells (cmL c (.slice a1 c.cols.length c1) (.slice a2 c.vals.length c2) (.slice a3 c.fields.length c3) (.slice a4 c.expr.args.length c4) (.slice a5 c.wh.args.length c5)).toArray 31)).cell? ⟨w.heap.size,15,none⟩=some (.string ⟨c.expr.nm.toArray⟩):=(Lib.cell_of_heap (heap_alloc_new w (.cells (cmL c (.slice a1 c.cols.length c1) (.slice a2 c.vals.length c2) (.slice a3 c.fields.length c3) (.slice a4 c.expr.args.length c4) (.slice a5 c.wh.args.length c5)).toArray 31)) 15).trans rfl
 have d16:(w.alloc (.cells (cmL c (.slice a1 c.cols.length c1) (.slice a2 c.vals.length c2) (.slice a3 c.fields.length c3) (.slice a4 c.expr.args.length c4) (.slice a5 c.wh.args.length c5)).toArray 31)).cell? ⟨w.heap.size,16,none⟩=some (.slice a4 c.expr.args.length c4):=(Lib.cell_of_heap (heap_alloc_new w (.cells (cmL c (.slice a1 c.cols.length c1) (.slice a2 c.vals.length c2) (.slice a3 c.fields.length c3) (.slice a4 c.expr.args.length c4) (.slice a5 c.wh.args.length c5)).toArray 31)) 16).trans rfl
 have d18:(w.alloc (.cells (cmL c (.slice a1 c.cols.length c1) (.slice a2 c.vals.length c2) (.slice a3 c.fields.length c3) (.slice a4 c.expr.args.length c4) (.slice a5 c.wh.args.length c5)).toArray 31)).cell? ⟨w.heap.size,18,none⟩=some (.int .i64 c.wh.k):=(Lib.cell_of_heap (heap_alloc_new w (.cells (cmL c (.slice a1 c.cols.length c1) (.slice a2 c.vals.length c2) (.slice a3 c.fields.length c3) (.slice a4 c.expr.args.length c4) (.slice a5 c.wh.args.length c5)).toArray 31)) 18).trans rfl
 have d19:(w.alloc (.cells (cmL c (.slice a1 c.cols.length c1) (.slice a2 c.vals.length c2) (.slice a3 c.fields.length c3) (.slice a4 c.expr.args.length c4) (.slice a5 c.wh.args.length c5)).toArray 31)).cell? ⟨w.heap.size,19,none⟩=some (.int .i64 c.wh.v.k):=(Lib.cell_of_heap (heap_alloc_new w (.cells (cmL c (.slice a1 c.cols.length c1) (.slice a2 c.vals.length c2) (.slice a3 c.fields.length c3) (.slice a4 c.expr.args.length c4) (.slice a5 c.wh.args.length c5)).toArray 31)) 19).trans rfl
 have d20:(w.alloc (.cells (cmL c (.slice a1 c.cols.length c1) (.slice a2 c.vals.length c2) (.slice a3 c.fields.length c3) (.slice a4 c.expr.args.length c4) (.slice a5 c.wh.args.length c5)).toArray 31)).cell? ⟨w.heap.size,20,none⟩=some (.int .i64 c.wh.v.n):=(Lib.cell_of_heap (heap_alloc_new w (.cells (cmL c (.slice a1 c.cols.length c1) (.slice a2 c.vals.length c2) (.slice a3 c.fields.length c3) (.slice a4 c.expr.args.length c4) (.slice a5 c.wh.args.length c5)).toArray 31)) 20).trans rfl
 have d21:(w.alloc (.cells (cmL c (.slice a1 c.cols.length c1) (.slice a2 c.vals.length c2) (.slice a3 c.fields.length c3) (.slice a4 c.expr.args.length c4) (.slice a5 c.wh.args.length c5)).toArray 31)).cell? ⟨w.heap.size,21,none⟩=some (.string ⟨c.wh.v.s.toArray⟩):=(Lib.cell_of_heap (heap_alloc_new w (.cells (cmL c (.slice a1 c.cols.length c1) (.slice a2 c.vals.length c2) (.slice a3 c.fields.length c3) (.slice a4 c.expr.args.length c4) (.slice a5 c.wh.args.length c5)).toArray 31)) 21).trans rfl
 have d22:(w.alloc (.cells (cmL c (.slice a1 c.cols.length c1) (.slice a2 c.vals.length c2) (.slice a3 c.fields.length c3) (.slice a4 c.expr.args.length c4) (.slice a5 c.wh.args.length c5)).toArray 31)).cell? ⟨w.heap.size,22,none⟩=some (.string ⟨c.wh.nm.toArray⟩):=(Lib.cell_of_heap (heap_alloc_new w (.cells (cmL c (.slice a1 c.cols.length c1) (.slice a2 c.vals.length c2) (.slice a3 c.fields.length c3) (.slice a4 c.expr.args.length c4) (.slice a5 c.wh.args.length c5)).toArray 31)) 22).trans rfl
 have d23:(w.alloc (.cells (cmL c (.slice a1 c.cols.length c1) (.slice a2 c.vals.length c2) (.slice a3 c.fields.length c3) (.slice a4 c.expr.args.length c4) (.slice a5 c.wh.args.length c5)).toArray 31)).cell? ⟨w.heap.size,23,none⟩=some (.slice a5 c.wh.args.length c5):=(Lib.cell_of_heap (heap_alloc_new w (.cells (cmL c (.slice a1 c.cols.length c1) (.slice a2 c.vals.length c2) (.slice a3 c.fields.length c3) (.slice a4 c.expr.args.length c4) (.slice a5 c.wh.args.length c5)).toArray 31)) 23).trans rfl
 have he1:=yf4 (he.under b0) fe
 have hw1:=fun (W:World) (hW:Below w.heap.size w W)=>yf4 (hw.under hW) fw
 rw [exV] at he1
 simp only [exV] at hw1
 unfold ybQ
 generalize decide (15 < ya4 c.expr)=E at he1 ⊢
 generalize decide (15 < ya4 c.wh)=F at hw1 ⊢
 clear he hw fe fw
 by_cases hm:5 < c.cols.length∨5 < c.vals.length∨5 < c.fields.length
 ·have hd:(5:Int) < max (max (c.cols.length:Int) (c.vals.length:Int)) (c.fields.length:Int):=by omega
  rw [decide_eq_true hm]
  clear hm he1 hw1
  go_enter Tryz.func28,Tryz.ntmps28
  go_wp2_with fail
  all_goals go_ret
  all_goals exact ⟨rfl,b0⟩
 ·have hd:¬ (5:Int) < max (max (c.cols.length:Int) (c.vals.length:Int)) (c.fields.length:Int):=by omega
  have l1:¬ 5 < c.cols.length:=by omega
  have l2:¬ 5 < c.vals.length:=by omega
  have l3:¬ 5 < c.fields.length:=by omega
  rw [decide_eq_false hm,Bool.false_or]
  clear hm
  cases E
  ·rw [Bool.false_or]
   go_enter Tryz.func28,Tryz.ntmps28
   go_wp2_with fail
   all_goals
    refine he1.mono ?_
    rintro e w1 ⟨rfl,b1⟩
    have f18:=(b1.cell (p:=⟨w.heap.size,18,none⟩) (by simp)).trans d18;have f19:=(b1.cell (p:=⟨w.heap.size,19,none⟩) (by simp)).trans d19;have f20:=(b1.cell (p:=⟨w.heap.size,20,none⟩) (by simp)).trans d20;have f21:=(b1.cell (p:=⟨w.heap.size,21,none⟩) (by simp)).trans d21;have f22:=(b1.cell (p:=⟨w.heap.size,22,none⟩) (by simp)).trans d22;have f23:=(b1.cell (p:=⟨w.heap.size,23,none⟩) (by simp)).trans d23
    have q1:Below w.heap.size w w1:=b0.trans (b1.mono (by simp))
    go_wp2_with fail
    refine (hw1 _ q1).mono ?_
    rintro e w2 ⟨rfl,b2⟩
    go_wp2
    go_ret
    exact ⟨yaF (by cases F <;> simp <;> omega),q1.trans (b2.mono q1.size)⟩
  ·rw [Bool.true_or]
   clear hw1
   go_enter Tryz.func28,Tryz.ntmps28
   go_wp2_with fail
   all_goals
    refine he1.mono ?_
    rintro e w1 ⟨rfl,b1⟩
    go_wp2
    go_ret
    exact ⟨rfl,b0.trans (b1.mono (by simp))⟩
def eqV (x y:Vl):Bool:=decide (x.k=y.k)&&decide (x.n=y.n)&&decide (x.s=y.s)
theorem yfj (x y:Vl):eqV x y=true↔x=y:=by
 obtain ⟨k,n,s⟩:=x
 obtain ⟨k',n',s'⟩:=y
 simp [eqV,and_assoc]
theorem yfB (x y:Vl) (w:World):Calls Tryz.prog 25 #[.agg #[.int .i64 x.k,.int .i64 x.n,.string ⟨x.s.toArray⟩],.agg #[.int .i64 y.k,.int .i64 y.n,.string ⟨y.s.toArray⟩]] w fun e w'=>e=.returned (.bool (eqV x y))∧Below w.heap.size w w':=by
 obtain ⟨k,n,s⟩:=x
 obtain ⟨k',n',s'⟩:=y
 simp only [eqV]
 by_cases h1:k=k'
 ·subst h1
  by_cases h2:n=n'
  ·subst h2
   go_enter Tryz.func25,Tryz.ntmps25
   go_wp2
   go_ret
   refine ⟨yaF ?_,((Below.refl _ _).alloc (Nat.le_refl _) _).alloc (by simp) _⟩
   simp
   rw [Bool.eq_iff_iff];simp
  ·have h2':(n == n')=false:=by simpa using h2
   go_enter Tryz.func25,Tryz.ntmps25
   go_wp2
   go_ret
   exact ⟨yaF (by simp [h2]),((Below.refl _ _).alloc (Nat.le_refl _) _).alloc (by simp) _⟩
 ·have h1':(k == k')=false:=by simpa using h1
  go_enter Tryz.func25,Tryz.ntmps25
  go_wp2
  go_ret
  exact ⟨yaF (by simp [h1]),((Below.refl _ _).alloc (Nat.le_refl _) _).alloc (by simp) _⟩
theorem ym2 {w:World} {b off:Nat} {L:List Vl} (hc:∀ j x,(L.flatMap vlC)[j]?=some x→w.cell? ⟨b,off+j,none⟩=some x) (k:Nat) (x:Vl) (hx:L[k]?=some x) :
  w.cell? ⟨b,off+k*3,none⟩=some (.int .i64 x.k)∧w.cell? ⟨b,off+k*3+1,none⟩=some (.int .i64 x.n)∧w.cell? ⟨b,off+k*3+2,none⟩=some (.string ⟨x.s.toArray⟩):=by
 have g0:=yco vlC 3 (fun _=>rfl) L k x hx 0 (by decide)
 have g1:=yco vlC 3 (fun _=>rfl) L k x hx 1 (by decide)
 have g2:=yco vlC 3 (fun _=>rfl) L k x hx 2 (by decide)
 exact ⟨hc _ _ g0,hc _ _ g1,hc _ _ g2⟩
theorem yrz {a b:List UInt8} (h:a≠b):((⟨a.toArray⟩:ByteArray).toList == (⟨b.toArray⟩:ByteArray).toList)=false:=by
 rw [Lib.toList_data,Lib.toList_data,beq_eq_false_iff_ne];simpa using h
theorem yq8 (P:Prop):∃ b:Bool,(b=true↔P):=by
 by_cases h:P
 ·exact ⟨true,by simp [h]⟩
 ·exact ⟨false,by simp [h]⟩
theorem ExAt.spread {B:Nat} {w:World} {u:Value} {x:Ex} (h:ExAt B w u x):∃ (ao:Option Addr) (ca:Nat) (us:Nat→Value),u=exV x.k x.v x.nm (.slice ao x.args.length ca) ∧
  (0 < x.args.length→∃ g o,ao=some ⟨g,o,none⟩∧B≤g∧g < w.heap.size∧(∀ i,i < x.args.length→Six w g (o+6*i) (us i))∧∀ i y,x.args[i]?=some y→ExAt B w (us i) y):=by
 cases h with
 | nil k x nm ao cap hz=>exact ⟨ao,cap,fun _=>.pointer none,rfl,fun hh=>absurd hh (Nat.lt_irrefl 0)⟩
 | args k x nm b off cap xs us hx hB hs hc h=>exact ⟨_,cap,us,rfl,fun _=>⟨b,off,rfl,hB,hs,hc,h⟩⟩
theorem ex_ext {x y:Ex}:x=y↔x.k=y.k∧x.nm=y.nm∧x.v=y.v∧x.args=y.args:=by
 obtain ⟨k,v,nm,a⟩:=x
 obtain ⟨k',v',nm',a'⟩:=y
 simp only [Ex.mk.injEq,Ex.k,Ex.v,Ex.nm,Ex.args]
 constructor
 ·rintro ⟨h1,h2,h3,h4⟩;exact ⟨h1,h3,h2,h4⟩
 ·rintro ⟨h1,h2,h3,h4⟩;exact ⟨h1,h3,h2,h4⟩
theorem Fit.few {x:Ex} (h:Fit x):x.args.length≤1000000000000000:=by
 cases h with
 | mk k v nm args hv hn ha hh=>show args.length≤_;omega
theorem Fit.arg {x y:Ex} (h:Fit x) {i:Nat} (hy:x.args[i]?=some y):Fit y:=by
 cases h with
 | mk k v nm args hv hn ha hh=>exact hh y (List.mem_of_getElem? hy)
theorem ygN {x y:Ex} {i:Nat} (hy:x.args[i]?=some y):ya4 y < ya4 x:=by
 rw [yeO x]
 have go:∀ (l:List Ex) (i:Nat),l[i]?=some y→ya4 y≤ybE l:=by
  intro l
  induction l with
  | nil=>intro i h;simp at h
  | cons z r ih =>
   intro i h
   rw [ybE]
   cases i with
   | zero=>simp at h;subst h;omega
   | succ i=>have:=ih i (by simpa using h);omega
 have:=go _ _ hy
 omega
theorem yr1:ya1 ((0:Nat):Int) 1=false:=by decide
theorem yr2:ya1 ((0:Nat):Int) 2=false:=by decide
theorem yr3:ya1 ((0:Nat):Int) 4=false:=by decide
theorem yr4:ya1 ((0:Nat):Int) 8=false:=by decide
theorem yqy:ya1 ((0:Nat):Int) 16=false:=by decide
theorem yqz:ya1 ((0:Nat):Int) 32=false:=by decide
theorem yqA:ya1 ((0:Nat):Int) 64=false:=by decide
theorem yn5:ya1 ((0:Nat):Int) 128=false:=by decide
theorem yn6:ya1 ((0:Nat):Int) 256=false:=by decide
theorem yn7:ya1 ((0:Nat):Int) 512=false:=by decide
theorem ylw:ya1 ((0:Nat):Int) 1024=false:=by decide
theorem ylx:ya1 ((0:Nat):Int) 2048=false:=by decide
theorem yr5:ya1 ((1:Nat):Int) 1=true:=by decide
theorem yr6:ya1 ((1:Nat):Int) 2=false:=by decide
theorem yr7:ya1 ((1:Nat):Int) 4=false:=by decide
theorem yr8:ya1 ((1:Nat):Int) 8=false:=by decide
theorem yqB:ya1 ((1:Nat):Int) 16=false:=by decide
theorem yqC:ya1 ((1:Nat):Int) 32=false:=by decide
theorem yqD:ya1 ((1:Nat):Int) 64=false:=by decide
theorem yn8:ya1 ((1:Nat):Int) 128=false:=by decide
theorem yn9:ya1 ((1:Nat):Int) 256=false:=by decide
theorem yoa:ya1 ((1:Nat):Int) 512=false:=by decide
theorem yly:ya1 ((1:Nat):Int) 1024=false:=by decide
theorem ylz:ya1 ((1:Nat):Int) 2048=false:=by decide
theorem yr9:ya1 ((3:Nat):Int) 1=true:=by decide
theorem ysa:ya1 ((3:Nat):Int) 2=true:=by decide
theorem ysb:ya1 ((3:Nat):Int) 4=false:=by decide
theorem ysc:ya1 ((3:Nat):Int) 8=false:=by decide
theorem yqI:ya1 ((3:Nat):Int) 16=false:=by decide
theorem yqJ:ya1 ((3:Nat):Int) 32=false:=by decide
theorem yqK:ya1 ((3:Nat):Int) 64=false:=by decide
theorem yoe:ya1 ((3:Nat):Int) 128=false:=by decide
theorem yof:ya1 ((3:Nat):Int) 256=false:=by decide
theorem yog:ya1 ((3:Nat):Int) 512=false:=by decide
theorem ylH:ya1 ((3:Nat):Int) 1024=false:=by decide
theorem ylI:ya1 ((3:Nat):Int) 2048=false:=by decide
theorem ysd:ya1 ((5:Nat):Int) 1=true:=by decide
theorem yse:ya1 ((5:Nat):Int) 2=false:=by decide
theorem ysf:ya1 ((5:Nat):Int) 4=true:=by decide
theorem ysg:ya1 ((5:Nat):Int) 8=false:=by decide
theorem yqP:ya1 ((5:Nat):Int) 16=false:=by decide
theorem yqQ:ya1 ((5:Nat):Int) 32=false:=by decide
theorem yqR:ya1 ((5:Nat):Int) 64=false:=by decide
theorem yoo:ya1 ((5:Nat):Int) 128=false:=by decide
theorem yop:ya1 ((5:Nat):Int) 256=false:=by decide
theorem yoq:ya1 ((5:Nat):Int) 512=false:=by decide
theorem ylP:ya1 ((5:Nat):Int) 1024=false:=by decide
theorem ylQ:ya1 ((5:Nat):Int) 2048=false:=by decide
theorem ysh:ya1 ((7:Nat):Int) 1=true:=by decide
theorem ysi:ya1 ((7:Nat):Int) 2=true:=by decide
theorem ysj:ya1 ((7:Nat):Int) 4=true:=by decide
theorem ysk:ya1 ((7:Nat):Int) 8=false:=by decide
theorem yqW:ya1 ((7:Nat):Int) 16=false:=by decide
theorem yqX:ya1 ((7:Nat):Int) 32=false:=by decide
theorem yqY:ya1 ((7:Nat):Int) 64=false:=by decide
theorem yoy:ya1 ((7:Nat):Int) 128=false:=by decide
theorem yoz:ya1 ((7:Nat):Int) 256=false:=by decide
theorem yoA:ya1 ((7:Nat):Int) 512=false:=by decide
theorem ylX:ya1 ((7:Nat):Int) 1024=false:=by decide
theorem ylY:ya1 ((7:Nat):Int) 2048=false:=by decide
theorem ysl:ya1 ((9:Nat):Int) 1=true:=by decide
theorem ysm:ya1 ((9:Nat):Int) 2=false:=by decide
theorem ysn:ya1 ((9:Nat):Int) 4=false:=by decide
theorem yso:ya1 ((9:Nat):Int) 8=true:=by decide
theorem yqZ:ya1 ((9:Nat):Int) 16=false:=by decide
theorem yq0:ya1 ((9:Nat):Int) 32=false:=by decide
theorem yq1:ya1 ((9:Nat):Int) 64=false:=by decide
theorem yoB:ya1 ((9:Nat):Int) 128=false:=by decide
theorem yoC:ya1 ((9:Nat):Int) 256=false:=by decide
theorem yoD:ya1 ((9:Nat):Int) 512=false:=by decide
theorem ylZ:ya1 ((9:Nat):Int) 1024=false:=by decide
theorem yl0:ya1 ((9:Nat):Int) 2048=false:=by decide
theorem yqE:ya1 ((21:Nat):Int) 1=true:=by decide
theorem yqF:ya1 ((21:Nat):Int) 2=false:=by decide
theorem yqG:ya1 ((21:Nat):Int) 4=true:=by decide
theorem yqH:ya1 ((21:Nat):Int) 8=false:=by decide
theorem yob:ya1 ((21:Nat):Int) 16=true:=by decide
theorem yoc:ya1 ((21:Nat):Int) 32=false:=by decide
theorem yod:ya1 ((21:Nat):Int) 64=false:=by decide
theorem ylA:ya1 ((21:Nat):Int) 128=false:=by decide
theorem ylB:ya1 ((21:Nat):Int) 256=false:=by decide
theorem ylC:ya1 ((21:Nat):Int) 512=false:=by decide
theorem yjY:ya1 ((21:Nat):Int) 1024=false:=by decide
theorem yjZ:ya1 ((21:Nat):Int) 2048=false:=by decide
theorem yqL:ya1 ((53:Nat):Int) 1=true:=by decide
theorem yqM:ya1 ((53:Nat):Int) 2=false:=by decide
theorem yqN:ya1 ((53:Nat):Int) 4=true:=by decide
theorem yqO:ya1 ((53:Nat):Int) 8=false:=by decide
theorem yol:ya1 ((53:Nat):Int) 16=true:=by decide
theorem yom:ya1 ((53:Nat):Int) 32=true:=by decide
theorem yon:ya1 ((53:Nat):Int) 64=false:=by decide
theorem ylM:ya1 ((53:Nat):Int) 128=false:=by decide
theorem ylN:ya1 ((53:Nat):Int) 256=false:=by decide
theorem ylO:ya1 ((53:Nat):Int) 512=false:=by decide
theorem yj6:ya1 ((53:Nat):Int) 1024=false:=by decide
theorem yj7:ya1 ((53:Nat):Int) 2048=false:=by decide
theorem yqS:ya1 ((65:Nat):Int) 1=true:=by decide
theorem yqT:ya1 ((65:Nat):Int) 2=false:=by decide
theorem yqU:ya1 ((65:Nat):Int) 4=false:=by decide
theorem yqV:ya1 ((65:Nat):Int) 8=false:=by decide
theorem yor:ya1 ((65:Nat):Int) 16=false:=by decide
theorem yos:ya1 ((65:Nat):Int) 32=false:=by decide
theorem yot:ya1 ((65:Nat):Int) 64=true:=by decide
theorem ylR:ya1 ((65:Nat):Int) 128=false:=by decide
theorem ylS:ya1 ((65:Nat):Int) 256=false:=by decide
theorem ylT:ya1 ((65:Nat):Int) 512=false:=by decide
theorem yj8:ya1 ((65:Nat):Int) 1024=false:=by decide
theorem yj9:ya1 ((65:Nat):Int) 2048=false:=by decide
theorem yoh:ya1 ((513:Nat):Int) 1=true:=by decide
theorem yoi:ya1 ((513:Nat):Int) 2=false:=by decide
theorem yoj:ya1 ((513:Nat):Int) 4=false:=by decide
theorem yok:ya1 ((513:Nat):Int) 8=false:=by decide
theorem ylJ:ya1 ((513:Nat):Int) 16=false:=by decide
theorem ylK:ya1 ((513:Nat):Int) 32=false:=by decide
theorem ylL:ya1 ((513:Nat):Int) 64=false:=by decide
theorem yj3:ya1 ((513:Nat):Int) 128=false:=by decide
theorem yj4:ya1 ((513:Nat):Int) 256=false:=by decide
theorem yj5:ya1 ((513:Nat):Int) 512=true:=by decide
theorem yig:ya1 ((513:Nat):Int) 1024=false:=by decide
theorem yih:ya1 ((513:Nat):Int) 2048=false:=by decide
theorem you:ya1 ((773:Nat):Int) 1=true:=by decide
theorem yov:ya1 ((773:Nat):Int) 2=false:=by decide
theorem yow:ya1 ((773:Nat):Int) 4=true:=by decide
theorem yox:ya1 ((773:Nat):Int) 8=false:=by decide
theorem ylU:ya1 ((773:Nat):Int) 16=false:=by decide
theorem ylV:ya1 ((773:Nat):Int) 32=false:=by decide
theorem ylW:ya1 ((773:Nat):Int) 64=false:=by decide
theorem yka:ya1 ((773:Nat):Int) 128=false:=by decide
theorem ykb:ya1 ((773:Nat):Int) 256=true:=by decide
theorem ykc:ya1 ((773:Nat):Int) 512=true:=by decide
theorem yii:ya1 ((773:Nat):Int) 1024=false:=by decide
theorem yij:ya1 ((773:Nat):Int) 2048=false:=by decide
theorem ylD:ya1 ((3713:Nat):Int) 1=true:=by decide
theorem ylE:ya1 ((3713:Nat):Int) 2=false:=by decide
theorem ylF:ya1 ((3713:Nat):Int) 4=false:=by decide
theorem ylG:ya1 ((3713:Nat):Int) 8=false:=by decide
theorem yj0:ya1 ((3713:Nat):Int) 16=false:=by decide
theorem yj1:ya1 ((3713:Nat):Int) 32=false:=by decide
theorem yj2:ya1 ((3713:Nat):Int) 64=false:=by decide
theorem yid:ya1 ((3713:Nat):Int) 128=true:=by decide
theorem yie:ya1 ((3713:Nat):Int) 256=false:=by decide
theorem yif:ya1 ((3713:Nat):Int) 512=true:=by decide
theorem yhb:ya1 ((3713:Nat):Int) 1024=true:=by decide
theorem yhc:ya1 ((3713:Nat):Int) 2048=true:=by decide
def yju (k:Int) (o:Int) (r e:Bool):Bool:=if ya1 (ydn k:Nat) o=true then r else e
def yc2 (c:Cm):Bool :=
 ygz c.kind&&yju c.kind 1 (yap c.name) (decide (c.name=[]))&&yju c.kind 2 (yap c.other) (decide (c.other=[]))&&yju c.kind 4 (yap c.column) (decide (c.column=[])) &&
 yju c.kind 8 (ydv c.cols) (decide (c.cols.length=0))&&yju c.kind 16 (yfG c.ty) (decide (c.ty=0))&&yju c.kind 32 (ycm c.val) (ybU c.val) &&
 yju c.kind 64 (ydw c.vals) (decide (c.vals.length=0))&&yju c.kind 128 (c.fields.all yap) (decide (c.fields.length=0))&&yju c.kind 256 (ycL c.expr) (ybw c.expr) &&
 yju c.kind 512 (yey c.all c.wh) (!c.all&&ybw c.wh)&&yju c.kind 1024 (decide (c.order=[]) || yap c.order) (decide (c.order=[])) &&
 yju c.kind 2048 (decide (-1≤c.limit∧c.limit≤999999999)) (decide (c.limit=0))
def yb0 (k:Int):Int:=if k < 1∨11 < k then -1 else if k≤2 then 0 else if k≤4 then 1 else 2
def yfw (k:Int) (v:Vl) (nm:List UInt8) (n:Nat):Bool:=decide ((n:Int)=yb0 k)&&(decide (k=2) || decide (nm=[]))&&(decide (k=1) || ybU v)
mutual
def exR:Ex→Bool
 | .mk k v nm args=>yfw k v nm args.length&&!(decide (k=2)&&!yap nm)&&ycm v&&yi6 args
def yi6:List Ex→Bool
 | []=>true
 | x::xs=>exR x&&yi6 xs
end
def yaB (s:List UInt8) (b:Bool):Bool:=if b=true then yap s else decide (s=[])
def ya6 (n a b:Int):Bool:=decide (a≤n)&&decide (n≤b)
def yeJ (c:Cm):Bool :=
 (ya6 c.kind 1 16&&yaB c.name (decide (c.kind≤13))&&yaB c.other (decide (c.kind=5) || decide (c.kind=7) || decide (c.kind=8))&&yaB c.column (ya6 c.kind 3 6 || decide (c.kind=8) || decide (c.kind=12))) &&
 (if c.kind=3∨c.kind=6 then ya6 c.ty 1 3 else decide (c.ty=0)) &&
 (ycm c.val&&(decide (c.kind=3) || ybU c.val)) &&
 (decide (c.kind=1) == decide (0 < c.cols.length)&&decide (c.kind=10) == decide (0 < c.vals.length)&&(decide (c.kind=13) || (decide (c.fields.length=0)&&decide (c.order=[])&&decide (c.limit=0)))) &&
 c.cols.all (fun x=>yap x.name&&ya6 x.ty 1 3)&&c.vals.all ycm&&c.fields.all yap &&
 (if c.kind=13 then ya6 c.limit (-1) 999999999&&(decide (c.order=[]) || yap c.order) else true) &&
 (if c.kind=12 then exR c.expr else ybw c.expr) &&
 (if (ya6 c.kind 11 13&&!c.all)=true then exR c.wh else ybw c.wh&&(ya6 c.kind 11 13 || !c.all))
theorem yfs (v:Vl) (h:ybU v=true):ycm v=true:=by
 obtain ⟨k,n,s⟩:=v
 simp only [ybU,Bool.and_eq_true,decide_eq_true_eq] at h
 obtain ⟨⟨rfl,rfl⟩,rfl⟩:=h
 decide
theorem yhN (k:Int):yfG k=ya6 k 1 3:=by
 unfold yfG ya6
 by_cases h1:k < 0
 ·have e:atL yaI k=[]:=by simp [atL,h1]
  rw [e]
  have:¬ 1≤k:=by omega
  simp [this]
 ·obtain ⟨n,rfl⟩:=Int.eq_ofNat_of_zero_le (show 0≤k by omega)
  by_cases h4:4≤n
  ·have e:atL yaI (n:Int)=[]:=by
    have:¬ ((n:Int) < 0):=by omega
    simp only [atL,this,if_false,Int.toNat_natCast]
    simp only [List.getD]
    rw [List.getElem?_eq_none (by simp [yaI];omega)];rfl
   rw [e]
   have:¬ ((n:Int)≤3):=by omega
   simp [this]
  ·match n,h4 with
   | 0,_=>decide
   | 1,_=>decide
   | 2,_=>decide
   | 3,_=>decide
   | n+4,h=>omega
theorem yla (k:Int) (h:3≤k) (h':k≤11):(yeB k:Int)=yb0 k∧0 < yeB k:=by
 have hc:k=3∨k=4∨k=5∨k=6∨k=7∨k=8∨k=9∨k=10∨k=11:=by omega
 rcases hc with rfl|rfl|rfl|rfl|rfl|rfl|rfl|rfl|rfl <;> decide
theorem ylb (k:Int) (h:k < 1∨11 < k):yeB k=0:=by
 have h3:¬ (k=3∨k=4):=by omega
 have e:atL ya0 k=[]:=by
  unfold atL
  by_cases h1:k < 0
  ·rw [if_pos h1]
  ·rw [if_neg h1]
   obtain ⟨n,rfl⟩:=Int.eq_ofNat_of_zero_le (show 0≤k by omega)
   rw [Int.toNat_natCast]
   by_cases h0:n=0
   ·subst h0;rfl
   ·simp only [List.getD]
    rw [List.getElem?_eq_none (by simp [ya0];omega)];rfl
 unfold yeB
 rw [if_neg h3,e];rfl
mutual
theorem yeL:∀ x:Ex,ycL x=exR x
 | .mk k v nm args=>by
  have ih:=ygk args
  rw [ycL,exR,yfw]
  by_cases h1:k=1
  ·subst h1
   have e:yb0 1=0:=by decide
   rw [if_pos rfl,e]
   cases args with
   | nil=>rw [yi6];simp;cases ycm v <;> simp
   | cons y r =>
    have:¬ ((List.length r:Int)+1=0):=by omega
    simp [this]
  rw [if_neg h1]
  by_cases h2:k=2
  ·subst h2
   have e:yb0 2=0:=by decide
   rw [if_pos rfl,e]
   cases args with
   | nil =>
    rw [yi6]
    cases hv:ybU v
    ·simp
    ·rw [yfs v hv];simp
   | cons y r =>
    have:¬ ((List.length r:Int)+1=0):=by omega
    simp [this]
  rw [if_neg h2]
  by_cases h3:3≤k∧k≤11
  ·obtain ⟨e1,e2⟩:=yla k h3.1 h3.2
   rw [← e1,ih]
   cases hv:ybU v
   ·simp [h1]
   ·rw [yfs v hv]
    by_cases hn:args.length=yeB k
    ·have:0 < args.length:=by omega
     have hi:(args.length:Int)=(yeB k:Int):=by omega
     simp [h1,h2,hn,e2]
    ·have hi:¬ ((args.length:Int)=(yeB k:Int)):=by omega
     simp [hn,hi]
  ·have h4:k < 1∨11 < k:=by omega
   have e:yb0 k = -1:=by rw [yb0,if_pos h4]
   rw [ylb k h4,e]
   have hi:¬ ((args.length:Int) = -1):=by omega
   by_cases hz:args.length=0
   ·simp [hz]
   ·simp [hz,hi]
theorem ygk:∀ l:List Ex,yeX l=yi6 l
 | []=>by rw [yeX,yi6]
 | x::xs=>by rw [yeX,yi6,yeL x,ygk xs]
end
theorem ynR (l:List Cl):l.all (fun x=>yap x.name&&ya6 x.ty 1 3)=l.all yf2:=by
 congr 1
 funext x
 rw [← yhN];rfl
theorem ygA {α:Type} (l:List α):decide (0 < l.length)=!decide (l.length=0):=by
 cases l <;> simp
theorem yeK (c:Cm):yc2 c=yeJ c:=by
 obtain ⟨k,name,other,column,cols,ty,val,vals,fields,expr,all,wh,order,limit⟩:=c
 simp only [yc2,yeJ,yaB]
 rw [ynR]
 by_cases hk:1≤k∧k≤16
 ·obtain ⟨h1,h2⟩:=hk
  have hc:k=1∨k=2∨k=3∨k=4∨k=5∨k=6∨k=7∨k=8∨k=9∨k=10∨k=11∨k=12∨k=13∨k=14∨k=15∨k=16:=by omega
  have hcol:cols.length=0→cols.all yf2=true:=by intro h;rw [List.eq_nil_of_length_eq_zero h];rfl
  have hval:vals.length=0→vals.all ycm=true:=by intro h;rw [List.eq_nil_of_length_eq_zero h];rfl
  have hfld:fields.length=0→fields.all yap=true:=by intro h;rw [List.eq_nil_of_length_eq_zero h];rfl
  have hnv:=yfs val
  have hty:=yhN ty
  have hex:=yeL expr
  have hwx:=yeL wh
  have hac:ydv cols=(decide (0 < cols.length)&&cols.all yf2):=rfl
  have hav:ydw vals=(decide (0 < vals.length)&&vals.all ycm):=rfl
  have hwh:yey all wh=if all=true then ybw wh else exR wh:=by rw [yey,hwx]
  have hlim:decide (-1≤limit∧limit≤999999999)=ya6 limit (-1) 999999999:=by unfold ya6;rw [Bool.eq_iff_iff];simp
  have hcl:=ygA cols
  have hvl:=ygA vals
  have hfl:=ygA fields
  rw [hac,hav,hwh,hty,hex,hlim,hcl,hvl]
  generalize cols.all yf2=C1 at *
  generalize vals.all ycm=V1 at *
  generalize fields.all yap=F1 at *
  generalize ya6 ty 1 3=T1 at *
  generalize exR expr=X1 at *
  generalize exR wh=X2 at *
  generalize ybw expr=N1 at *
  generalize ybw wh=N2 at *
  generalize ycm val=V2 at *
  generalize ybU val=V3 at *
  generalize yap name=A1 at *
  generalize yap other=A2 at *
  generalize yap column=A3 at *
  generalize yap order=A4 at *
  generalize ya6 limit (-1) 999999999=L1 at *
  have e1:cols.length=0↔decide (cols.length=0)=true:=by simp
  have e2:vals.length=0↔decide (vals.length=0)=true:=by simp
  have e3:fields.length=0↔decide (fields.length=0)=true:=by simp
  rw [e1] at hcol
  rw [e2] at hval
  rw [e3] at hfld
  generalize decide (cols.length=0)=C0 at *
  generalize decide (vals.length=0)=V0 at *
  generalize decide (fields.length=0)=F0 at *
  generalize decide (name=[])=M1 at *
  generalize decide (other=[])=M2 at *
  generalize decide (column=[])=M3 at *
  generalize decide (order=[])=M4 at *
  generalize decide (ty=0)=T0 at *
  generalize decide (limit=0)=L0 at *
  clear hac hav hwh hty hex hwx hlim hcl hvl hfl e1 e2 e3 h1 h2
  rcases hc with rfl|rfl|rfl|rfl|rfl|rfl|rfl|rfl|rfl|rfl|rfl|rfl|rfl|rfl|rfl|rfl
  all_goals
   simp only [yju,show ydn 1=9 from rfl,show ydn 2=1 from rfl,show ydn 3=53 from rfl,show ydn 4=5 from rfl,show ydn 5=7 from rfl,show ydn 6=21 from rfl,show ydn 7=3 from rfl,show ydn 8=7 from rfl,show ydn 9=1 from rfl,show ydn 10=65 from rfl,show ydn 11=513 from rfl,show ydn 12=773 from rfl,show ydn 13=3713 from rfl,show ydn 14=0 from rfl,show ydn 15=0 from rfl,show ydn 16=0 from rfl]
   simp only [yr1,yr2,yr3,yr4,yqy,yqz,yqA,yn5,yn6,yn7,ylw,ylx,yr5,yr6,yr7,yr8,yqB,yqC,yqD,yn8,yn9,yoa,yly,ylz,yr9,ysa,ysb,ysc,yqI,yqJ,yqK,yoe,yof,yog,ylH,ylI,ysd,yse,ysf,ysg,yqP,yqQ,yqR,yoo,yop,yoq,ylP,ylQ,ysh,ysi,ysj,ysk,yqW,yqX,yqY,yoy,yoz,yoA,ylX,ylY,ysl,ysm,ysn,yso,yqZ,yq0,yq1,yoB,yoC,yoD,ylZ,yl0,yqE,yqF,yqG,yqH,yob,yoc,yod,ylA,ylB,ylC,yjY,yjZ,yqL,yqM,yqN,yqO,yol,yom,yon,ylM,ylN,ylO,yj6,yj7,yqS,yqT,yqU,yqV,yor,yos,yot,ylR,ylS,ylT,yj8,yj9,yoh,yoi,yoj,yok,ylJ,ylK,ylL,yj3,yj4,yj5,yig,yih,you,yov,yow,yox,ylU,ylV,ylW,yka,ykb,ykc,yii,yij,ylD,ylE,ylF,ylG,yj0,yj1,yj2,yid,yie,yif,yhb,yhc,ya6,ygz]
   simp
   cases C0 <;> cases V0 <;> cases F0 <;> cases V3 <;> simp_all
   all_goals
    rw [Bool.eq_iff_iff]
    simp only [Bool.and_eq_true,Bool.or_eq_true]
    try (cases all <;> simp)
    all_goals try (constructor <;> (intro h;simp_all))
 ·have e1:ygz k=false:=by simp only [ygz,decide_eq_false_iff_not];exact hk
  have e2:ya6 k 1 16=false:=by
   unfold ya6
   rw [Bool.and_eq_false_iff,decide_eq_false_iff_not,decide_eq_false_iff_not];omega
  rw [e1,e2];simp
theorem yjH (p:Nat→Bool) (i:Nat) (hp:p i=true):∀ l:List Nat,i ∈ l→l.countP (fun j=>p j&&j != i)+1≤l.countP p:=by
 intro l
 induction l with
 | nil=>intro h;cases h
 | cons x l ih =>
  intro h
  have mono:l.countP (fun j=>p j&&j != i)≤l.countP p:=List.countP_mono_left fun j _ hj=>by simp at hj;exact hj.1
  by_cases hx:x=i
  ·subst hx
   simp [hp]
   exact mono
  ·have hm:i ∈ l:=by
    rcases List.mem_cons.1 h with e|e
    ·exact absurd e.symm hx
    ·exact e
   have:=ih hm
   simp only [List.countP_cons]
   have e:(x != i)=true:=by simpa using hx
   rw [e,Bool.and_true]
   omega
def left (ops:Array Oper) (listed:Array Bool):Nat:=(List.range ops.size).countP fun j=>!listed.getD j true
section
variable (md:Region.Mode) (ops:Array Oper) (L0:Array Bool) (a0:Act)
end
def ykp (ops:Array Oper) (L0:Array Bool) (s:Nat):Bool:=(List.range ops.size).all fun j=>L0.getD j true || (ops[j]?).all fun p=>p.dst != some s
theorem yit {listed:Array Bool} {i:Nat} (h:listed.getD i false=true):listed.getD i true=true:=by
 simp only [Array.getD] at h ⊢
 split at h
 ·rename_i hi;rw [dif_pos hi];exact h
 ·cases h
structure CmFit (c:Cm):Prop where
 name:c.name.length≤140737488355328
 other:c.other.length≤140737488355328
 column:c.column.length≤140737488355328
 order:c.order.length≤140737488355328
 val:c.val.s.length≤140737488355328
 cols:c.cols.length≤1000000000000000
 vals:c.vals.length≤1000000000000000
 fields:c.fields.length≤1000000000000000
 colsN:∀ x ∈ c.cols,x.name.length≤140737488355328
 valsN:∀ x ∈ c.vals,x.s.length≤140737488355328
 fieldsN:∀ x ∈ c.fields,x.length≤140737488355328
 expr:Fit c.expr
 wh:Fit c.wh
def Held (w:World) (c:Cm) (cv vv fv ea wa:Value) (m:Int) (W:World):Prop :=
 (∀ o x,(cmL c cv vv fv ea wa)[o]?=some x→W.cell? ⟨w.heap.size,o,none⟩=some x)∧W.cell? ⟨w.heap.size+1,0,none⟩=some (.int .i64 m)∧Below w.heap.size w W∧w.heap.size+2≤W.heap.size
theorem Held.start (w:World) (c:Cm) (cv vv fv ea wa:Value) (m:Int) :
  Held w c cv vv fv ea wa m ((w.alloc (.cells (cmL c cv vv fv ea wa).toArray 31)).alloc (.cells #[.int .i64 m] 3)):=by
 have hz:(w.alloc (.cells (cmL c cv vv fv ea wa).toArray 31)).heap.size=w.heap.size+1:=by simp
 have h1:((w.alloc (.cells (cmL c cv vv fv ea wa).toArray 31)).alloc (.cells #[.int .i64 m] 3)).heap[w.heap.size]?=some (.cells (cmL c cv vv fv ea wa).toArray 31) :=
  (Below.heap_alloc _ _ _ (by omega)).trans (heap_alloc_new _ _)
 refine ⟨fun o x hx=>?_, ?_,((Below.refl _ _).alloc (Nat.le_refl _) _).alloc (by simp) _,by simp⟩
 ·rw [Lib.cell_of_heap h1];simpa using hx
 ·have h2:((w.alloc (.cells (cmL c cv vv fv ea wa).toArray 31)).alloc (.cells #[.int .i64 m] 3)).heap[w.heap.size+1]?=some (.cells #[.int .i64 m] 3):=by rw [← hz];exact heap_alloc_new _ _
  rw [Lib.cell_of_heap h2];rfl
theorem Held.below {w:World} {c:Cm} {cv vv fv ea wa:Value} {m:Int} {W W':World} (h:Held w c cv vv fv ea wa m W) (hb:Below W.heap.size W W'):Held w c cv vv fv ea wa m W':=by
 obtain ⟨h1,h2,h3,h4⟩:=h
 exact ⟨fun o x hx=>(hb.cell (p:=⟨w.heap.size,o,none⟩) (by show w.heap.size < _;omega)).trans (h1 o x hx),(hb.cell (p:=⟨w.heap.size+1,0,none⟩) (by show w.heap.size+1 < _;omega)).trans h2,h3.trans (hb.mono h3.size),Nat.le_trans h4 hb.size⟩
theorem yjV {w:World} (c:Cm) (fv:Value) (h:RowAt 0 w fv c.fields.length (c.fields.flatMap stC)) (hn:c.fields.length≤1000000000000000) (hs:∀ x ∈ c.fields,x.length≤140737488355328) (hl:Laid w) :
  Calls Tryz.prog 77 #[fv,.func (.func 72) #[] #[]] w fun e w'=>e=.returned (.bool (c.fields.all yap))∧Below w.heap.size w w':=by
 rcases h with ⟨h0,ao,cap,rfl⟩|⟨b,off,cap,rfl,hB,hlt,hc⟩
 ·have e:c.fields=[]:=List.eq_nil_of_length_eq_zero h0
  rw [e]
  exact ynM ao cap _ w
 ·refine yp3 b off cap c.fields w hlt hn (fun k x hx=>?_) (fun k x hx W hW=>?_)
  ·have g:=yco stC 1 (fun _=>rfl) c.fields k x hx 0 (by decide)
   rw [Nat.mul_one,Nat.add_zero] at g
   exact hc _ _ g
  ·have:=yci ⟨x.toArray⟩ W (by rw [yaN];exact hs x (List.mem_of_getElem? hx)) (hl.below hW)
   have e0:(⟨x.toArray⟩:ByteArray).data.toList=x:=by simp
   rw [e0] at this
   exact this
theorem yec {w:World} (x:List UInt8) (hs:x.length≤140737488355328) (hl:Laid w):Calls Tryz.prog 72 #[.string ⟨x.toArray⟩] w fun e w'=>e=.returned (.bool (yap x))∧Below w.heap.size w w':=by
 have:=yci ⟨x.toArray⟩ w (by rw [yaN];exact hs) hl
 have e0:(⟨x.toArray⟩:ByteArray).data.toList=x:=by simp
 rw [e0] at this
 exact this
section
variable {P:Program} {ops:Array Oper} {rest:List Oper} {op:Oper} {a:Act} {w:World} {Q:Exit→Act→World→Prop}
theorem yaW (slot:Nat) (ty:TypeId) (x:Operand) (cs:List Value) (hd:op.dst=some slot) (hgd:op.guard=none) (ho:op.op=.box ty x) (hx:a.eval x=.agg cs.toArray)
  (h:∀ w' b,Hid (b=w.heap.size)→w'.heap[b]?=some (.cells cs.toArray ty)→Below w.heap.size w w'→wpList P ops Q rest (a.put (some slot) (.pointer (some ⟨b,0,none⟩))) w'):wpList P ops Q (op::rest) a w:=by
 refine wpList_plain hgd fun K hK=>?_
 rw [← hd] at h
 unfold Oper.wp execOp
 simp only [ho,Sem.run_bind,Instr.box,newVar,newRow,run_newObj_alloc,Sem.run_pure,Result.andThen_ok,hx]
 exact hK _ _ (h _ _ (yae rfl) (heap_alloc_new _ _) ((Below.refl _ _).alloc (Nat.le_refl _) _))
end
theorem Tryz.fields56:(Tryz.prog.fieldsOf 56).toList.map (fun f=>(f.name,f.type,f.offset))=[("Name",9,0),("Type",3,1)]:=by kernel_rfl
theorem Tryz.under56:Tryz.prog.underlying 56=some (.struct (Tryz.prog.fieldsOf 56)):=by kernel_rfl
theorem Tryz.stood56:Tryz.prog.stoodInHeld 56=false:=by kernel_rfl
theorem yjW {l:List Field} {a b:String} {i j k m:Nat} (h:l.map (fun f=>(f.name,f.type,f.offset))=[(a,i,j),(b,k,m)]) :
  ∃ f0 f1:Field,l=[f0,f1]∧f0.name=a∧f0.type=i∧f0.offset=j∧f1.name=b∧f1.type=k∧f1.offset=m:=by
 match l,h with
 | [f0,f1],h=>simp at h;exact ⟨f0,f1,rfl,h.1.1,h.1.2.1,h.1.2.2,h.2.1,h.2.2.1,h.2.2.2⟩
def ygl (x y:Cl):Bool:=decide (x.name=y.name)&&decide (x.ty=y.ty)
theorem yui (n n':List UInt8) (t t':Int) (w:World) :
  (binOp .neq 56 (.agg #[.string ⟨n.toArray⟩,.int .i64 t]) (.agg #[.string ⟨n'.toArray⟩,.int .i64 t'])).run Tryz.prog w=.ok (.bool (!ygl ⟨n,t⟩ ⟨n',t'⟩)) w:=by
 rw [run_neq_struct,run_equalIn_struct w 9999 56 _ _ Tryz.under56 Tryz.stood56]
 obtain ⟨f0,f1,hf,n0,t0,o0,n1,t1,o1⟩:=yjW Tryz.fields56
 rw [hf]
 simp [Op.eqFields,n0,t0,o0,n1,t1,o1,go_sem]
 unfold ygl
 by_cases h1:n=n' <;> by_cases h2:t=t' <;> simp [h1,h2]
theorem ymZ {w:World} {b off:Nat} {L:List Cl} (hc:∀ j x,(L.flatMap clC)[j]?=some x→w.cell? ⟨b,off+j,none⟩=some x) (k:Nat) (x:Cl) (hx:L[k]?=some x) :
  w.cell? ⟨b,off+k*2,none⟩=some (.string ⟨x.name.toArray⟩)∧w.cell? ⟨b,off+k*2+1,none⟩=some (.int .i64 x.ty):=by
 have g0:=yco clC 2 (fun _=>rfl) L k x hx 0 (by decide)
 have g1:=yco clC 2 (fun _=>rfl) L k x hx 1 (by decide)
 exact ⟨hc _ _ g0,hc _ _ g1⟩
theorem ym1 {w:World} {b off:Nat} {L:List (List UInt8)} (hc:∀ j x,(L.flatMap stC)[j]?=some x→w.cell? ⟨b,off+j,none⟩=some x) (k:Nat) (x:List UInt8) (hx:L[k]?=some x) :
  w.cell? ⟨b,off+k,none⟩=some (.string ⟨x.toArray⟩):=by
 have g0:=yco stC 1 (fun _=>rfl) L k x hx 0 (by decide)
 rw [Nat.mul_one,Nat.add_zero] at g0
 exact hc _ _ g0
theorem yuh (x y:Vl) (w:World) :
  (binOp .neq 24 (.agg #[.int .i64 x.k,.int .i64 x.n,.string ⟨x.s.toArray⟩]) (.agg #[.int .i64 y.k,.int .i64 y.n,.string ⟨y.s.toArray⟩])).run Tryz.prog w=.ok (.bool (!eqV x y)) w:=by
 rw [run_neq_struct,run_equalIn_struct w 9999 24 _ _ Tryz.under24 Tryz.stood24]
 obtain ⟨f0,f1,f2,hf,n0,t0,o0,n1,t1,o1,n2,t2,o2⟩:=ydA Tryz.fields24
 rw [hf]
 simp [Op.eqFields,n0,t0,o0,n1,t1,o1,n2,t2,o2,go_sem]
 unfold eqV
 by_cases h1:x.k=y.k <;> by_cases h2:x.n=y.n <;> by_cases h3:x.s=y.s <;> simp [h1,h2,h3]
theorem ykF (x y:Cl):ygl x y=true↔x=y:=by
 obtain ⟨k,n⟩:=x
 obtain ⟨k',n'⟩:=y
 simp [ygl]
theorem yjN (L M:List Cl) (u v:Value) (w:World) (h:RowAt 0 w u L.length (L.flatMap clC)) (h':RowAt 0 w v M.length (M.flatMap clC)) (hL:L.length≤1000000000000000) :
  Calls Tryz.prog 51 #[u,v] w fun e w'=>(∃ b,e=.returned (.bool b)∧(b=true↔L=M))∧Below w.heap.size w w':=by
 obtain ⟨ao,cap,hu⟩:=h.form
 obtain ⟨ao',cap',hv⟩:=h'.form
 by_cases hn:L.length=M.length
 ·have H3:Hid (∀ k x y,L[k]?=some x→M[k]?=some y→∃ g o g' o',ao=some ⟨g,o,none⟩∧ao'=some ⟨g',o',none⟩∧g < w.heap.size∧g' < w.heap.size∧(w.cell? ⟨g,o+k*2,none⟩=some (.string ⟨x.name.toArray⟩)∧w.cell? ⟨g,o+k*2+1,none⟩=some (.int .i64 x.ty))∧(w.cell? ⟨g',o'+k*2,none⟩=some (.string ⟨y.name.toArray⟩)∧w.cell? ⟨g',o'+k*2+1,none⟩=some (.int .i64 y.ty))):=by
   intro k x y hx hy
   rcases h with ⟨h0,-⟩|⟨b,off,cp,e,-,hlt,hc⟩
   ·exfalso;have:=(List.getElem?_eq_some_iff.1 hx).1;omega
   rcases h' with ⟨h0,-⟩|⟨b',off',cp',e',-,hlt',hc'⟩
   ·exfalso;have:=(List.getElem?_eq_some_iff.1 hy).1;omega
   rw [hu] at e
   rw [hv] at e'
   cases e
   cases e'
   exact ⟨b,off,b',off',rfl,rfl,hlt,hlt',ymZ hc k x hx,ymZ hc' k y hy⟩
  rw [hu,hv,← hn]
  have HN:=yae hn
  clear h h' hu hv
  obtain ⟨n,hN⟩:∃ n,L.length=n:=⟨_,rfl⟩
  rw [hN] at hL ⊢
  go_enter Tryz.func51,Tryz.ntmps51
  go_wp2
  go_loopw [5,13] (fun _ i wl=>∃ k:Nat,k≤n∧i=.int .i64 k∧Hid (Below w.heap.size w wl)∧Hid (∀ j,j < k→L[j]?=M[j]?)) (fun _ i _=>n - (intOf i).toNat)
  case atStart=>exact ⟨0,Nat.zero_le _,rfl,Below.refl _ _,fun j hj=>absurd hj (Nat.not_lt_zero _)⟩
  case round =>
   obtain ⟨k,hk,rfl,HB,HA⟩:=hrel
   by_cases hlt:k < n
   ·obtain ⟨x,hx⟩:∃ x,L[k]?=some x:=⟨L[k],List.getElem?_eq_getElem (by omega)⟩
    obtain ⟨y,hy⟩:∃ y,M[k]?=some y:=⟨M[k]'(by have:=HN.out;omega),List.getElem?_eq_getElem (by have:=HN.out;omega)⟩
    obtain ⟨g,o,g',o',rfl,rfl,hg,hg',⟨a0,a1⟩,⟨d0,d1⟩⟩:=H3.out k x y hx hy
    have hnx:=HB.out
    have c0:=(hnx.cell (p:=⟨g,o+k*2,none⟩) hg).trans a0
    have f0:=(hnx.cell (p:=⟨g',o'+k*2,none⟩) hg').trans d0
    have c1:=(hnx.cell (p:=⟨g,o+k*2+1,none⟩) hg).trans a1
    have f1:=(hnx.cell (p:=⟨g',o'+k*2+1,none⟩) hg').trans d1
    have hlt':(k:Int) < (n:Int):=by omega
    have HX:=yae hx
    have HY:=yae hy
    have HQ:=yae (ykF x y)
    have hsv:=yui x.name y.name x.ty y.ty
    clear a0 d0 a1 d1 hx hy H3 hnx
    by_cases hq:x=y
    ·have hb:=HQ.out.2 hq
     have HE:=yae hq
     rw [hb] at hsv
     clear hq hb HQ
     go_wp2
     go_quiet (fail)
     go_wp2
     go_roundw
     case rel =>
      refine ⟨k+1,by omega,by go_num,below_drewN HB.out _,fun j hj=>?_⟩
      rcases Nat.lt_or_ge j k with hjk|hjk
      ·exact HA.out j hjk
      ·rw [show j=k by omega,HX.out,HY.out,HE.out]
     case measure=>simp [intOf];omega
    ·have hb:ygl x y=false:=by
      cases hh:ygl x y with
      | false=>rfl
      | true=>exact absurd (HQ.out.1 hh) hq
     have HE:=yae hq
     rw [hb] at hsv
     clear hq hb HQ
     go_wp2
     go_quiet (fail)
     go_wp2
     go_ret
     refine ⟨⟨false,rfl,⟨fun e=>Bool.noConfusion e,fun e=>?_⟩⟩,below_drewN HB.out _⟩
     have h1:=HX.out
     rw [e,HY.out] at h1
     cases h1
     exact absurd rfl HE.out
   ·clear H3
    go_wp2
    go_ret
    refine ⟨⟨true,rfl,⟨fun _=>List.ext_getElem? fun j=>?_,fun _=>rfl⟩⟩,HB.out⟩
    rcases Nat.lt_or_ge j k with hjk|hjk
    ·exact HA.out j hjk
    ·have:=HN.out
     rw [List.getElem?_eq_none (by omega),List.getElem?_eq_none (by omega)]
 ·have hn':((L.length:Int) == (M.length:Int))=false:=by rw [beq_eq_false_iff_ne];omega
  rw [hu,hv]
  have HN:=yae hn
  clear h h' hu hv hn
  go_enter Tryz.func51,Tryz.ntmps51
  go_wp2
  go_ret
  exact ⟨⟨false,rfl,⟨fun e=>Bool.noConfusion e,fun e=>absurd (congrArg List.length e) HN.out⟩⟩,Below.refl _ _⟩
theorem yjP (L M:List Vl) (u v:Value) (w:World) (h:RowAt 0 w u L.length (L.flatMap vlC)) (h':RowAt 0 w v M.length (M.flatMap vlC)) (hL:L.length≤1000000000000000) :
  Calls Tryz.prog 52 #[u,v] w fun e w'=>(∃ b,e=.returned (.bool b)∧(b=true↔L=M))∧Below w.heap.size w w':=by
 obtain ⟨ao,cap,hu⟩:=h.form
 obtain ⟨ao',cap',hv⟩:=h'.form
 by_cases hn:L.length=M.length
 ·have H3:Hid (∀ k x y,L[k]?=some x→M[k]?=some y→∃ g o g' o',ao=some ⟨g,o,none⟩∧ao'=some ⟨g',o',none⟩∧g < w.heap.size∧g' < w.heap.size∧(w.cell? ⟨g,o+k*3,none⟩=some (.int .i64 x.k)∧w.cell? ⟨g,o+k*3+1,none⟩=some (.int .i64 x.n)∧w.cell? ⟨g,o+k*3+2,none⟩=some (.string ⟨x.s.toArray⟩))∧(w.cell? ⟨g',o'+k*3,none⟩=some (.int .i64 y.k)∧w.cell? ⟨g',o'+k*3+1,none⟩=some (.int .i64 y.n)∧w.cell? ⟨g',o'+k*3+2,none⟩=some (.string ⟨y.s.toArray⟩))):=by
   intro k x y hx hy
   rcases h with ⟨h0,-⟩|⟨b,off,cp,e,-,hlt,hc⟩
   ·exfalso;have:=(List.getElem?_eq_some_iff.1 hx).1;omega
   rcases h' with ⟨h0,-⟩|⟨b',off',cp',e',-,hlt',hc'⟩
   ·exfalso;have:=(List.getElem?_eq_some_iff.1 hy).1;omega
   rw [hu] at e
   rw [hv] at e'
   cases e
   cases e'
   exact ⟨b,off,b',off',rfl,rfl,hlt,hlt',ym2 hc k x hx,ym2 hc' k y hy⟩
  rw [hu,hv,← hn]
  have HN:=yae hn
  clear h h' hu hv
  obtain ⟨n,hN⟩:∃ n,L.length=n:=⟨_,rfl⟩
  rw [hN] at hL ⊢
  go_enter Tryz.func52,Tryz.ntmps52
  go_wp2
  go_loopw [5,13] (fun _ i wl=>∃ k:Nat,k≤n∧i=.int .i64 k∧Hid (Below w.heap.size w wl)∧Hid (∀ j,j < k→L[j]?=M[j]?)) (fun _ i _=>n - (intOf i).toNat)
  case atStart=>exact ⟨0,Nat.zero_le _,rfl,Below.refl _ _,fun j hj=>absurd hj (Nat.not_lt_zero _)⟩
  case round =>
   obtain ⟨k,hk,rfl,HB,HA⟩:=hrel
   by_cases hlt:k < n
   ·obtain ⟨x,hx⟩:∃ x,L[k]?=some x:=⟨L[k],List.getElem?_eq_getElem (by omega)⟩
    obtain ⟨y,hy⟩:∃ y,M[k]?=some y:=⟨M[k]'(by have:=HN.out;omega),List.getElem?_eq_getElem (by have:=HN.out;omega)⟩
    obtain ⟨g,o,g',o',rfl,rfl,hg,hg',⟨a0,a1,a2⟩,⟨d0,d1,d2⟩⟩:=H3.out k x y hx hy
    have hnx:=HB.out
    have c0:=(hnx.cell (p:=⟨g,o+k*3,none⟩) hg).trans a0
    have f0:=(hnx.cell (p:=⟨g',o'+k*3,none⟩) hg').trans d0
    have c1:=(hnx.cell (p:=⟨g,o+k*3+1,none⟩) hg).trans a1
    have f1:=(hnx.cell (p:=⟨g',o'+k*3+1,none⟩) hg').trans d1
    have c2:=(hnx.cell (p:=⟨g,o+k*3+2,none⟩) hg).trans a2
    have f2:=(hnx.cell (p:=⟨g',o'+k*3+2,none⟩) hg').trans d2
    have hlt':(k:Int) < (n:Int):=by omega
    have HX:=yae hx
    have HY:=yae hy
    have HQ:=yae (yfj x y)
    have hsv:=yuh x y
    clear a0 d0 a1 d1 a2 d2 hx hy H3 hnx
    by_cases hq:x=y
    ·have hb:=HQ.out.2 hq
     have HE:=yae hq
     rw [hb] at hsv
     clear hq hb HQ
     go_wp2
     go_quiet (fail)
     go_wp2
     go_roundw
     case rel =>
      refine ⟨k+1,by omega,by go_num,below_drewN HB.out _,fun j hj=>?_⟩
      rcases Nat.lt_or_ge j k with hjk|hjk
      ·exact HA.out j hjk
      ·rw [show j=k by omega,HX.out,HY.out,HE.out]
     case measure=>simp [intOf];omega
    ·have hb:eqV x y=false:=by
      cases hh:eqV x y with
      | false=>rfl
      | true=>exact absurd (HQ.out.1 hh) hq
     have HE:=yae hq
     rw [hb] at hsv
     clear hq hb HQ
     go_wp2
     go_quiet (fail)
     go_wp2
     go_ret
     refine ⟨⟨false,rfl,⟨fun e=>Bool.noConfusion e,fun e=>?_⟩⟩,below_drewN HB.out _⟩
     have h1:=HX.out
     rw [e,HY.out] at h1
     cases h1
     exact absurd rfl HE.out
   ·clear H3
    go_wp2
    go_ret
    refine ⟨⟨true,rfl,⟨fun _=>List.ext_getElem? fun j=>?_,fun _=>rfl⟩⟩,HB.out⟩
    rcases Nat.lt_or_ge j k with hjk|hjk
    ·exact HA.out j hjk
    ·have:=HN.out
     rw [List.getElem?_eq_none (by omega),List.getElem?_eq_none (by omega)]
 ·have hn':((L.length:Int) == (M.length:Int))=false:=by rw [beq_eq_false_iff_ne];omega
  rw [hu,hv]
  have HN:=yae hn
  clear h h' hu hv hn
  go_enter Tryz.func52,Tryz.ntmps52
  go_wp2
  go_ret
  exact ⟨⟨false,rfl,⟨fun e=>Bool.noConfusion e,fun e=>absurd (congrArg List.length e) HN.out⟩⟩,Below.refl _ _⟩
def eqS (x y:List UInt8):Bool:=decide (x=y)
theorem yqt (x y:List UInt8):eqS x y=true↔x=y:=by simp [eqS]
theorem yvf (x y:List UInt8) (w:World):(binOp .neq 9 (.string ⟨x.toArray⟩) (.string ⟨y.toArray⟩)).run Tryz.prog w=.ok (.bool (!eqS x y)) w:=by
 simp [go_sem,eqS]
 by_cases h:x=y <;> simp [h]
theorem yjO (L M:List (List UInt8)) (u v:Value) (w:World) (h:RowAt 0 w u L.length (L.flatMap stC)) (h':RowAt 0 w v M.length (M.flatMap stC)) (hL:L.length≤1000000000000000) :
  Calls Tryz.prog 53 #[u,v] w fun e w'=>(∃ b,e=.returned (.bool b)∧(b=true↔L=M))∧Below w.heap.size w w':=by
 obtain ⟨ao,cap,hu⟩:=h.form
 obtain ⟨ao',cap',hv⟩:=h'.form
 by_cases hn:L.length=M.length
 ·have H3:Hid (∀ k x y,L[k]?=some x→M[k]?=some y→∃ g o g' o',ao=some ⟨g,o,none⟩∧ao'=some ⟨g',o',none⟩∧g < w.heap.size∧g' < w.heap.size∧(w.cell? ⟨g,o+k,none⟩=some (.string ⟨x.toArray⟩))∧(w.cell? ⟨g',o'+k,none⟩=some (.string ⟨y.toArray⟩))):=by
   intro k x y hx hy
   rcases h with ⟨h0,-⟩|⟨b,off,cp,e,-,hlt,hc⟩
   ·exfalso;have:=(List.getElem?_eq_some_iff.1 hx).1;omega
   rcases h' with ⟨h0,-⟩|⟨b',off',cp',e',-,hlt',hc'⟩
   ·exfalso;have:=(List.getElem?_eq_some_iff.1 hy).1;omega
   rw [hu] at e
   rw [hv] at e'
   cases e
   cases e'
   exact ⟨b,off,b',off',rfl,rfl,hlt,hlt',ym1 hc k x hx,ym1 hc' k y hy⟩
  rw [hu,hv,← hn]
  have HN:=yae hn
  clear h h' hu hv
  obtain ⟨n,hN⟩:∃ n,L.length=n:=⟨_,rfl⟩
  rw [hN] at hL ⊢
  go_enter Tryz.func53,Tryz.ntmps53
  go_wp2
  go_loopw [5,13] (fun _ i wl=>∃ k:Nat,k≤n∧i=.int .i64 k∧Hid (Below w.heap.size w wl)∧Hid (∀ j,j < k→L[j]?=M[j]?)) (fun _ i _=>n - (intOf i).toNat)
  case atStart=>exact ⟨0,Nat.zero_le _,rfl,Below.refl _ _,fun j hj=>absurd hj (Nat.not_lt_zero _)⟩
  case round =>
   obtain ⟨k,hk,rfl,HB,HA⟩:=hrel
   by_cases hlt:k < n
   ·obtain ⟨x,hx⟩:∃ x,L[k]?=some x:=⟨L[k],List.getElem?_eq_getElem (by omega)⟩
    obtain ⟨y,hy⟩:∃ y,M[k]?=some y:=⟨M[k]'(by have:=HN.out;omega),List.getElem?_eq_getElem (by have:=HN.out;omega)⟩
    obtain ⟨g,o,g',o',rfl,rfl,hg,hg',a0,d0⟩:=H3.out k x y hx hy
    have hnx:=HB.out
    have c0:=(hnx.cell (p:=⟨g,o+k,none⟩) hg).trans a0
    have f0:=(hnx.cell (p:=⟨g',o'+k,none⟩) hg').trans d0
    have hlt':(k:Int) < (n:Int):=by omega
    have HX:=yae hx
    have HY:=yae hy
    have HQ:=yae (yqt x y)
    have hsv:=yvf x y
    clear a0 d0 hx hy H3 hnx
    by_cases hq:x=y
    ·subst hq
     clear HQ hsv
     go_wp2
     go_quiet (fail)
     go_wp2
     go_roundw
     case rel =>
      refine ⟨k+1,by omega,by go_num,below_drewN HB.out _,fun j hj=>?_⟩
      rcases Nat.lt_or_ge j k with hjk|hjk
      ·exact HA.out j hjk
      ·rw [show j=k by omega,HX.out,HY.out]
     case measure=>simp [intOf];omega
    ·have hb:(x == y)=false:=beq_eq_false_iff_ne.2 hq
     have HE:=yae hq
     clear hq HQ hsv
     go_wp2
     go_quiet (fail)
     go_wp2
     go_ret
     refine ⟨⟨false,rfl,⟨fun e=>Bool.noConfusion e,fun e=>?_⟩⟩,below_drewN HB.out _⟩
     have h1:=HX.out
     rw [e,HY.out] at h1
     cases h1
     exact absurd rfl HE.out
   ·clear H3
    go_wp2
    go_ret
    refine ⟨⟨true,rfl,⟨fun _=>List.ext_getElem? fun j=>?_,fun _=>rfl⟩⟩,HB.out⟩
    rcases Nat.lt_or_ge j k with hjk|hjk
    ·exact HA.out j hjk
    ·have:=HN.out
     rw [List.getElem?_eq_none (by omega),List.getElem?_eq_none (by omega)]
 ·have hn':((L.length:Int) == (M.length:Int))=false:=by rw [beq_eq_false_iff_ne];omega
  rw [hu,hv]
  have HN:=yae hn
  clear h h' hu hv hn
  go_enter Tryz.func53,Tryz.ntmps53
  go_wp2
  go_ret
  exact ⟨⟨false,rfl,⟨fun e=>Bool.noConfusion e,fun e=>absurd (congrArg List.length e) HN.out⟩⟩,Below.refl _ _⟩
theorem ytF (x y:Vl) (w:World) :
  (binOp .eql 24 (.agg #[.int .i64 x.k,.int .i64 x.n,.string ⟨x.s.toArray⟩]) (.agg #[.int .i64 y.k,.int .i64 y.n,.string ⟨y.s.toArray⟩])).run Tryz.prog w=.ok (.bool (eqV x y)) w:=by
 rw [yjQ]
 congr 2
 unfold ydG eqV
 rw [Lib.toList_data,Lib.toList_data,Bool.eq_iff_iff]
 simp
theorem yd7 {w wr:World} (h:Below w.heap.size w wr) (o o':Obj):Below w.heap.size w ((wr.alloc o).alloc o'):=(h.alloc h.size _).alloc (by have:=h.size;simp;omega) _
theorem ygR {w wr w':World} (h:Below w.heap.size w wr) {o o':Obj} (hb:Below ((wr.alloc o).alloc o').heap.size ((wr.alloc o).alloc o') w'):Below w.heap.size w w' :=
 (yd7 h o o').trans (hb.mono (by have:=h.size;simp;omega))
theorem yuq (k k':Int) (x x':Vl) (nm nm':List UInt8) (ao ao':Option Addr) (n n' ca ca':Nat) (w:World) (hne:¬ (k=k'∧nm=nm'∧x=x')) :
  Calls Tryz.prog 54 #[exV k x nm (.slice ao n ca),exV k' x' nm' (.slice ao' n' ca')] w fun e w'=>e=.returned (.bool false)∧Below w.heap.size w w':=by
 have hq:=ytF x x'
 unfold exV
 by_cases h1:k=k'
 ·subst h1
  by_cases h3:x=x'
  ·subst h3
   have h2:¬ nm=nm':=fun e=>hne ⟨rfl,e,rfl⟩
   have h2':=yrz h2
   rw [(yfj x x).2 rfl] at hq
   clear hne
   go_enter Tryz.func54,Tryz.ntmps54
   go_wp2
   go_ret
   exact ⟨rfl,yd7 (Below.refl _ _) _ _⟩
  ·have hf:eqV x x'=false:=by
    cases hh:eqV x x' with
    | false=>rfl
    | true=>exact absurd ((yfj x x').1 hh) h3
   rw [hf] at hq
   clear hne h3 hf
   go_enter Tryz.func54,Tryz.ntmps54
   go_wp2
   go_ret
   exact ⟨rfl,yd7 (Below.refl _ _) _ _⟩
 ·have h1':(k == k')=false:=by simpa using h1
  clear hne hq
  go_enter Tryz.func54,Tryz.ntmps54
  go_wp2
  go_ret
  exact ⟨rfl,yd7 (Below.refl _ _) _ _⟩
theorem yth (k:Int) (x:Vl) (nm:List UInt8) (ao ao':Option Addr) (n n' ca ca':Nat) (w:World) (P:Bool→Prop)
  (hf:∀ W,Below w.heap.size w W→Calls Tryz.prog 103 #[.slice ao n ca,.slice ao' n' ca',.func (.func 54) #[] #[]] W fun e w'=>(∃ b,e=.returned (.bool b)∧P b)∧Below W.heap.size W w') :
  Calls Tryz.prog 54 #[exV k x nm (.slice ao n ca),exV k x nm (.slice ao' n' ca')] w fun e w'=>(∃ b,e=.returned (.bool b)∧P b)∧Below w.heap.size w w':=by
 have hq:=ytF x x
 rw [(yfj x x).2 rfl] at hq
 unfold exV
 go_enter Tryz.func54,Tryz.ntmps54
 go_wp2_with (go_at_call 103;refine (hf _ (yd7 (Below.refl _ _) _ _)).mono ?_;rintro e w1 ⟨⟨b,rfl,hb⟩,b1⟩)
 go_ret
 exact ⟨⟨b,rfl,hb⟩,ygR (Below.refl _ _) b1⟩
theorem yqs (ao ao':Option Addr) (n n' ca ca':Nat) (w:World) (h:n≠n') :
  Calls Tryz.prog 103 #[.slice ao n ca,.slice ao' n' ca',.func (.func 54) #[] #[]] w fun e w'=>e=.returned (.bool false)∧Below w.heap.size w w':=by
 have h3':((n:Int) == (n':Int))=false:=by rw [beq_eq_false_iff_ne];omega
 clear h
 go_enter Tryz.func103,Tryz.ntmps103
 go_wp2
 go_ret
 exact ⟨rfl,Below.refl _ _⟩
theorem yi7 {k k':Int} {v v':Vl} {nm nm':List UInt8} {a a':Value} (h:exV k v nm a=exV k' v' nm' a'):a=a':=by
 have:=congrArg (fun u=>match u with|Value.agg x=>x[5]?|_=>none) h
 simpa [exV] using this
theorem ynV (ao ao':Option Addr) (n ca ca':Nat) (xs ys:List Ex) (us vs:Nat→Value) (w:World) (hx:xs.length=n) (hy:ys.length=n) (hn:n≤1000000000000000)
  (h1:0 < n→∃ g o g' o',ao=some ⟨g,o,none⟩∧ao'=some ⟨g',o',none⟩∧g < w.heap.size∧g' < w.heap.size∧(∀ i,i < n→Six w g (o+6*i) (us i))∧(∀ i,i < n→Six w g' (o'+6*i) (vs i)))
  (hk:∀ i,i < n→(∃ k y nm ao m cap,us i=exV k y nm (.slice ao m cap))∧(∃ k y nm ao m cap,vs i=exV k y nm (.slice ao m cap)))
  (hc:∀ i y z,xs[i]?=some y→ys[i]?=some z→∀ b:Bool,(b=true↔y=z)→∀ W,Below w.heap.size w W→Calls Tryz.prog 54 #[us i,vs i] W fun e w'=>e=.returned (.bool b)∧Below W.heap.size W w') :
  Calls Tryz.prog 103 #[.slice ao n ca,.slice ao' n ca',.func (.func 54) #[] #[]] w fun e w'=>(∃ b,e=.returned (.bool b)∧(b=true↔xs=ys))∧Below w.heap.size w w':=by
 have H1:=yae h1
 have HC:=yae hc
 have HK:=yae hk
 clear h1 hc hk
 go_enter Tryz.func103,Tryz.ntmps103
 go_wp2
 go_loopw [7,8,9,17] (fun _ _ _ i wl=>∃ k:Nat,k≤n∧i=.int .i64 k∧Hid (Below w.heap.size w wl)∧Hid (∀ j,j < k→xs[j]?=ys[j]?)) (fun _ _ _ i _=>n - (intOf i).toNat)
 case atStart=>exact ⟨0,Nat.zero_le _,rfl,Below.refl _ _,fun j hj=>absurd hj (Nat.not_lt_zero _)⟩
 case round =>
  obtain ⟨i,hi,rfl,HB,HA⟩:=hrel
  by_cases hlt:i < n
  ·obtain ⟨y,hy1⟩:∃ y,xs[i]?=some y:=⟨xs[i]'(by omega),List.getElem?_eq_getElem (by omega)⟩
   obtain ⟨z,hz1⟩:∃ z,ys[i]?=some z:=⟨ys[i]'(by omega),List.getElem?_eq_getElem (by omega)⟩
   obtain ⟨g,o,g',o',rfl,rfl,hg,hg',f1,f2⟩:=H1.out (by omega)
   obtain ⟨q,hq⟩:=yq8 (y=z)
   have kc:=HC.out i y z hy1 hz1 q hq
   obtain ⟨ky,vy,ny,ay,ey,s0,s1,s2,s3,s4,s5⟩:=f1 i hlt
   obtain ⟨kz,vz,nz,az,ez,t0,t1,t2,t3,t4,t5⟩:=f2 i hlt
   obtain ⟨⟨k2,v2,m2,o2,l2,q2,r2⟩,⟨k3,v3,m3,o3,l3,q3,r3⟩⟩:=HK.out i hlt
   obtain rfl:=(yi7 (ey.symm.trans r2)).symm
   obtain rfl:=(yi7 (ez.symm.trans r3)).symm
   clear r2 r3
   rw [ey,ez] at kc
   unfold exV at kc
   have up:∀ b o,b < w.heap.size→wr.cell? ⟨b,o,none⟩=w.cell? ⟨b,o,none⟩:=fun b o hb=>HB.out.cell (p:=⟨b,o,none⟩) hb
   have e0:=(up _ _ hg).trans s0
   have e1:=(up _ _ hg).trans s1
   have e2:=(up _ _ hg).trans s2
   have e3:=(up _ _ hg).trans s3
   have e4:=(up _ _ hg).trans s4
   have e5:=(up _ _ hg).trans s5
   have f0:=(up _ _ hg').trans t0
   have f1:=(up _ _ hg').trans t1
   have f2:=(up _ _ hg').trans t2
   have f3:=(up _ _ hg').trans t3
   have f4:=(up _ _ hg').trans t4
   have f5:=(up _ _ hg').trans t5
   have hgr:g' < wr.heap.size:=Nat.lt_of_lt_of_le hg' HB.out.size
   have HX:=yae hy1
   have HY:=yae hz1
   have HQ:=yae hq
   have hlt':(i:Int) < (n:Int):=by omega
   rw [Nat.mul_comm 6 i] at e0 e1 e2 e3 e4 e5 f0 f1 f2 f3 f4 f5
   clear s0 s1 s2 s3 s4 s5 t0 t1 t2 t3 t4 t5 hy1 hz1 H1 HC HK up ey ez hq
   cases q with
   | true =>
    go_wp2_with (go_at_call 54;refine (kc _ (yd7 HB.out _ _)).mono ?_;rintro e w' ⟨rfl,hb⟩)
    go_roundw
    case rel =>
     refine ⟨i+1,by omega,by go_num,ygR HB.out hb,fun j hj=>?_⟩
     rcases Nat.lt_or_ge j i with hjk|hjk
     ·exact HA.out j hjk
     ·rw [show j=i by omega,HX.out,HY.out,HQ.out.1 (by simp)]
    case measure=>simp [intOf];omega
   | false =>
    go_wp2_with (go_at_call 54;refine (kc _ (yd7 HB.out _ _)).mono ?_;rintro e w' ⟨rfl,hb⟩)
    go_ret
    refine ⟨⟨false,rfl,⟨fun e=>Bool.noConfusion e,fun e=>?_⟩⟩,ygR HB.out hb⟩
    have h1:=HX.out
    rw [e,HY.out] at h1
    cases h1
    exact HQ.out.2 rfl
  ·clear H1 HC HK
   go_wp2
   go_ret
   refine ⟨⟨true,rfl,⟨fun _=>List.ext_getElem? fun j=>?_,fun _=>rfl⟩⟩,HB.out⟩
   rcases Nat.lt_or_ge j i with hjk|hjk
   ·exact HA.out j hjk
   ·rw [List.getElem?_eq_none (by omega),List.getElem?_eq_none (by omega)]
theorem ypX (n:Nat):∀ (x y:Ex) (u v:Value) (w0:World),ya4 x≤n→ExAt 0 w0 u x→ExAt 0 w0 v y→Fit x→∀ b:Bool,(b=true↔x=y)→∀ W,Below w0.heap.size w0 W →
  Calls Tryz.prog 54 #[u,v] W fun e w'=>e=.returned (.bool b)∧Below W.heap.size W w':=by
 induction n with
 | zero=>intro x y u v w0 h;have:=yev x;omega
 | succ n ih =>
  intro x y u v w0 hs hx hy hf b hb W hW
  obtain ⟨ao,ca,us,rfl,h1⟩:=hx.spread
  obtain ⟨ao',ca',vs,rfl,h2⟩:=hy.spread
  by_cases hh:x.k=y.k∧x.nm=y.nm∧x.v=y.v
  ·obtain ⟨e1,e2,e3⟩:=hh
   rw [← e1,← e2,← e3]
   refine (yth x.k x.v x.nm ao ao' x.args.length y.args.length ca ca' W (fun b'=>b'=true↔x.args=y.args) fun W1 hW1=>?_).mono ?_
   ·have hW2:Below w0.heap.size w0 W1:=hW.trans (hW1.mono hW.size)
    by_cases e4:x.args.length=y.args.length
    ·rw [← e4]
     have keep:∀ {g o:Nat} {u:Value},g < w0.heap.size→Six w0 g o u→Six W1 g o u:=fun hg h=>h.keep (hW2.block _ hg)
     refine ynV ao ao' x.args.length ca ca' x.args y.args us vs W1 rfl e4.symm hf.few ?_ ?_ ?_
     ·intro h0
      obtain ⟨g,o,rfl,-,hg,hc,-⟩:=h1 h0
      obtain ⟨g',o',rfl,-,hg',hc',-⟩:=h2 (by omega)
      exact ⟨g,o,g',o',rfl,rfl,Nat.lt_of_lt_of_le hg hW2.size,Nat.lt_of_lt_of_le hg' hW2.size,fun i hi=>keep hg (hc i hi),fun i hi=>keep hg' (hc' i (by omega))⟩
     ·intro i hi
      obtain ⟨g,o,-,-,-,-,he⟩:=h1 (by omega)
      obtain ⟨g',o',-,-,-,-,he'⟩:=h2 (by omega)
      exact ⟨(he i _ (List.getElem?_eq_getElem hi)).form,(he' i _ (List.getElem?_eq_getElem (by omega))).form⟩
     ·intro i y' z' hy' hz' b' hb' W' hW'
      have h0:0 < x.args.length:=by have:=(List.getElem?_eq_some_iff.1 hy').1;omega
      obtain ⟨g,o,-,-,-,-,he⟩:=h1 h0
      obtain ⟨g',o',-,-,-,-,he'⟩:=h2 (by omega)
      exact ih y' z' (us i) (vs i) w0 (by have:=ygN hy';omega) (he i y' hy') (he' i z' hz') (hf.arg hy') b' hb' W' (hW2.trans (hW'.mono hW2.size))
    ·refine (yqs ao ao' _ _ ca ca' W1 e4).mono ?_
     rintro e w' ⟨rfl,bel⟩
     exact ⟨⟨false,rfl,⟨fun e=>Bool.noConfusion e,fun e=>absurd (congrArg List.length e) e4⟩⟩,bel⟩
   ·rintro e w' ⟨⟨b',rfl,hb'⟩,bel⟩
    refine ⟨yaF ?_,bel⟩
    rw [Bool.eq_iff_iff,hb',hb,ex_ext]
    exact ⟨fun h=>⟨e1,e2,e3,h⟩,fun h=>h.2.2.2⟩
  ·refine (yuq x.k y.k x.v y.v x.nm y.nm ao ao' x.args.length y.args.length ca ca' W hh).mono ?_
   rintro e w' ⟨rfl,bel⟩
   refine ⟨yaF ?_,bel⟩
   cases b with
   | false=>rfl
   | true =>
    have:=ex_ext.1 (hb.1 rfl)
    exact absurd ⟨this.1,this.2.1,this.2.2.1⟩ hh
theorem ytv {W:World} {b:Nat} {t:TypeId} {c:Cm} {cv vv fv ea wa:Value} (h:W.heap[b]?=some (.cells (cmL c cv vv fv ea wa).toArray t)) :
  W.cell? ⟨b,0,none⟩=some (.int .i64 c.kind)∧W.cell? ⟨b,1,none⟩=some (.string ⟨c.name.toArray⟩)∧W.cell? ⟨b,2,none⟩=some (.string ⟨c.other.toArray⟩)∧W.cell? ⟨b,3,none⟩=some (.string ⟨c.column.toArray⟩)∧W.cell? ⟨b,4,none⟩=some (cv):=by
 refine ⟨?_, ?_, ?_, ?_, ?_⟩ <;> exact (Lib.cell_of_heap h _).trans rfl
theorem yuL {W:World} {b:Nat} {t:TypeId} {c:Cm} {cv vv fv ea wa:Value} (h:W.heap[b]?=some (.cells (cmL c cv vv fv ea wa).toArray t)) :
  W.cell? ⟨b,5,none⟩=some (.int .i64 c.ty)∧W.cell? ⟨b,6,none⟩=some (.int .i64 c.val.k)∧W.cell? ⟨b,7,none⟩=some (.int .i64 c.val.n)∧W.cell? ⟨b,8,none⟩=some (.string ⟨c.val.s.toArray⟩)∧W.cell? ⟨b,9,none⟩=some (vv):=by
 refine ⟨?_, ?_, ?_, ?_, ?_⟩ <;> exact (Lib.cell_of_heap h _).trans rfl
theorem yuM {W:World} {b:Nat} {t:TypeId} {c:Cm} {cv vv fv ea wa:Value} (h:W.heap[b]?=some (.cells (cmL c cv vv fv ea wa).toArray t)) :
  W.cell? ⟨b,10,none⟩=some (fv):=by
 exact (Lib.cell_of_heap h _).trans rfl
theorem yuN {W:World} {b:Nat} {t:TypeId} {c:Cm} {cv vv fv ea wa:Value} (h:W.heap[b]?=some (.cells (cmL c cv vv fv ea wa).toArray t)) :
  W.cell? ⟨b,11,none⟩=some (.int .i64 c.expr.k)∧W.cell? ⟨b,12,none⟩=some (.int .i64 c.expr.v.k)∧W.cell? ⟨b,13,none⟩=some (.int .i64 c.expr.v.n)∧W.cell? ⟨b,14,none⟩=some (.string ⟨c.expr.v.s.toArray⟩)∧W.cell? ⟨b,15,none⟩=some (.string ⟨c.expr.nm.toArray⟩)∧W.cell? ⟨b,16,none⟩=some (ea):=by
 refine ⟨?_, ?_, ?_, ?_, ?_, ?_⟩ <;> exact (Lib.cell_of_heap h _).trans rfl
theorem yuO {W:World} {b:Nat} {t:TypeId} {c:Cm} {cv vv fv ea wa:Value} (h:W.heap[b]?=some (.cells (cmL c cv vv fv ea wa).toArray t)) :
  W.cell? ⟨b,17,none⟩=some (.bool c.all)∧W.cell? ⟨b,18,none⟩=some (.int .i64 c.wh.k)∧W.cell? ⟨b,19,none⟩=some (.int .i64 c.wh.v.k)∧W.cell? ⟨b,20,none⟩=some (.int .i64 c.wh.v.n)∧W.cell? ⟨b,21,none⟩=some (.string ⟨c.wh.v.s.toArray⟩)∧W.cell? ⟨b,22,none⟩=some (.string ⟨c.wh.nm.toArray⟩)∧W.cell? ⟨b,23,none⟩=some (wa):=by
 refine ⟨?_, ?_, ?_, ?_, ?_, ?_, ?_⟩ <;> exact (Lib.cell_of_heap h _).trans rfl
theorem yuP {W:World} {b:Nat} {t:TypeId} {c:Cm} {cv vv fv ea wa:Value} (h:W.heap[b]?=some (.cells (cmL c cv vv fv ea wa).toArray t)) :
  W.cell? ⟨b,24,none⟩=some (.string ⟨c.order.toArray⟩)∧W.cell? ⟨b,25,none⟩=some (.int .i64 c.limit):=by
 refine ⟨?_, ?_⟩ <;> exact (Lib.cell_of_heap h _).trans rfl
theorem ytg (c d:Cm) (a1 a2 a3 a1' a2' a3':Option Addr) (c1 c2 c3 c1' c2' c3':Nat) (ea wa ea' wa':Value) (w:World) (ne:c.kind≠d.kind) :
  Calls Tryz.prog 20 #[.agg (cmL c (.slice a1 c.cols.length c1) (.slice a2 c.vals.length c2) (.slice a3 c.fields.length c3) ea wa).toArray,.agg (cmL d (.slice a1' d.cols.length c1') (.slice a2' d.vals.length c2') (.slice a3' d.fields.length c3') ea' wa').toArray] w fun e w'=>e=.returned (.bool false)∧Below w.heap.size w w':=by
 have ne':(c.kind == d.kind)=false:=by simpa using ne
 clear ne
 go_enter Tryz.func20,Tryz.ntmps20
 go_wp2_with (first|(refine yaW 2 31 _ (cmL c (.slice a1 c.cols.length c1) (.slice a2 c.vals.length c2) (.slice a3 c.fields.length c3) ea wa) rfl rfl rfl rfl ?_;intro W0 rb hrb k0 b0)|(refine yaW 3 31 _ (cmL d (.slice a1' d.cols.length c1') (.slice a2' d.vals.length c2') (.slice a3' d.fields.length c3') ea' wa') rfl rfl rfl rfl ?_;intro W1 sb hsb j1 b1;have k1:=(b1.block rb (ltS k0)).trans k0;have B1:Hid (Below w.heap.size w W1):=b0.trans (b1.mono b0.size);obtain ⟨pa0,pa1,pa2,pa3,pa4⟩:=ytv k1;obtain ⟨qa0,qa1,qa2,qa3,qa4⟩:=ytv j1))
 go_ret
 exact ⟨rfl,B1.out⟩
theorem yry (c d:Cm) (a1 a2 a3 a1' a2' a3':Option Addr) (c1 c2 c3 c1' c2' c3':Nat) (ea wa ea' wa':Value) (w:World) (e1:Hid (d.kind=c.kind)) (e2:Hid (d.name=c.name)) (e3:Hid (d.other=c.other)) (e4:Hid (d.column=c.column)) (h5:∀ W,Below w.heap.size w W→Calls Tryz.prog 51 #[.slice a1 c.cols.length c1,.slice a1' d.cols.length c1'] W fun e w'=>e=.returned (.bool true)∧Below W.heap.size W w') (e6:Hid (d.ty=c.ty)) (e7:Hid (d.val=c.val)) (h8:∀ W,Below w.heap.size w W→Calls Tryz.prog 52 #[.slice a2 c.vals.length c2,.slice a2' d.vals.length c2'] W fun e w'=>e=.returned (.bool true)∧Below W.heap.size W w') (h9:∀ W,Below w.heap.size w W→Calls Tryz.prog 53 #[.slice a3 c.fields.length c3,.slice a3' d.fields.length c3'] W fun e w'=>e=.returned (.bool true)∧Below W.heap.size W w') (h10:∀ W,Below w.heap.size w W→Calls Tryz.prog 54 #[exV c.expr.k c.expr.v c.expr.nm ea,exV d.expr.k d.expr.v d.expr.nm ea'] W fun e w'=>e=.returned (.bool true)∧Below W.heap.size W w') (e11:Hid (d.all=c.all)) (h12:∀ W,Below w.heap.size w W→Calls Tryz.prog 54 #[exV c.wh.k c.wh.v c.wh.nm wa,exV d.wh.k d.wh.v d.wh.nm wa'] W fun e w'=>e=.returned (.bool true)∧Below W.heap.size W w') (e13:Hid (d.order=c.order)) (e14:Hid (d.limit=c.limit)) :
  Calls Tryz.prog 20 #[.agg (cmL c (.slice a1 c.cols.length c1) (.slice a2 c.vals.length c2) (.slice a3 c.fields.length c3) ea wa).toArray,.agg (cmL d (.slice a1' d.cols.length c1') (.slice a2' d.vals.length c2') (.slice a3' d.fields.length c3') ea' wa').toArray] w fun e w'=>e=.returned (.bool true)∧Below w.heap.size w w':=by
 have hq:=ytF c.val c.val
 rw [(yfj c.val c.val).2 rfl] at hq
 simp only [exV] at h10 h12
 go_enter Tryz.func20,Tryz.ntmps20
 go_wp2_with (first|(refine yaW 2 31 _ (cmL c (.slice a1 c.cols.length c1) (.slice a2 c.vals.length c2) (.slice a3 c.fields.length c3) ea wa) rfl rfl rfl rfl ?_;intro W0 rb hrb k0 b0)|(refine yaW 3 31 _ (cmL d (.slice a1' d.cols.length c1') (.slice a2' d.vals.length c2') (.slice a3' d.fields.length c3') ea' wa') rfl rfl rfl rfl ?_;intro W1 sb hsb j1 b1;have k1:=(b1.block rb (ltS k0)).trans k0;have B1:Hid (Below w.heap.size w W1):=b0.trans (b1.mono b0.size);obtain ⟨pa0,pa1,pa2,pa3,pa4⟩:=ytv k1;obtain ⟨qa0,qa1,qa2,qa3,qa4⟩:=ytv j1;rw [e1.out] at qa0;rw [e2.out] at qa1;rw [e3.out] at qa2;rw [e4.out] at qa3))
 refine (h5 _ B1.out).mono ?_
 rintro e W2 ⟨rfl,b2⟩
 have k2:=(b2.block rb (ltS k1)).trans k1
 have j2:=(b2.block sb (ltS j1)).trans j1
 have B2:Hid (Below w.heap.size w W2):=B1.out.trans (b2.mono B1.out.size)
 obtain ⟨pb5,pb6,pb7,pb8,pb9⟩:=yuL k2
 obtain ⟨qb5,qb6,qb7,qb8,qb9⟩:=yuL j2
 rw [e6.out] at qb5
 rw [e7.out] at qb6
 rw [e7.out] at qb7
 rw [e7.out] at qb8
 clear h5 b2 k1 j1 pa0 qa0 pa1 qa1 pa2 qa2 pa3 qa3 pa4 qa4
 go_wp2_with fail
 refine (h8 _ B2.out).mono ?_
 rintro e W3 ⟨rfl,b3⟩
 have k3:=(b3.block rb (ltS k2)).trans k2
 have j3:=(b3.block sb (ltS j2)).trans j2
 have B3:Hid (Below w.heap.size w W3):=B2.out.trans (b3.mono B2.out.size)
 have pc10:=yuM k3
 have qc10:=yuM j3
 clear h8 b3 k2 j2 pb5 qb5 pb6 qb6 pb7 qb7 pb8 qb8 pb9 qb9
 go_wp2_with fail
 refine (h9 _ B3.out).mono ?_
 rintro e W4 ⟨rfl,b4⟩
 have k4:=(b4.block rb (ltS k3)).trans k3
 have j4:=(b4.block sb (ltS j3)).trans j3
 have B4:Hid (Below w.heap.size w W4):=B3.out.trans (b4.mono B3.out.size)
 obtain ⟨pd11,pd12,pd13,pd14,pd15,pd16⟩:=yuN k4
 obtain ⟨qd11,qd12,qd13,qd14,qd15,qd16⟩:=yuN j4
 clear h9 b4 k3 j3 pc10 qc10
 go_wp2_with fail
 refine (h10 _ B4.out).mono ?_
 rintro e W5 ⟨rfl,b5⟩
 have k5:=(b5.block rb (ltS k4)).trans k4
 have j5:=(b5.block sb (ltS j4)).trans j4
 have B5:Hid (Below w.heap.size w W5):=B4.out.trans (b5.mono B4.out.size)
 obtain ⟨pe17,pe18,pe19,pe20,pe21,pe22,pe23⟩:=yuO k5
 obtain ⟨qe17,qe18,qe19,qe20,qe21,qe22,qe23⟩:=yuO j5
 rw [e11.out] at qe17
 clear h10 b5 k4 j4 pd11 qd11 pd12 qd12 pd13 qd13 pd14 qd14 pd15 qd15 pd16 qd16
 go_wp2_with fail
 refine (h12 _ B5.out).mono ?_
 rintro e W6 ⟨rfl,b6⟩
 have k6:=(b6.block rb (ltS k5)).trans k5
 have j6:=(b6.block sb (ltS j5)).trans j5
 have B6:Hid (Below w.heap.size w W6):=B5.out.trans (b6.mono B5.out.size)
 obtain ⟨pf24,pf25⟩:=yuP k6
 obtain ⟨qf24,qf25⟩:=yuP j6
 rw [e13.out] at qf24
 rw [e14.out] at qf25
 clear h12 b6 k5 j5 pe17 qe17 pe18 qe18 pe19 qe19 pe20 qe20 pe21 qe21 pe22 qe22 pe23 qe23
 go_wp2
 go_ret
 exact ⟨rfl,B6.out⟩
def yeb (M R:Bool):Int:=if M=true then 2 else if R=true then 0 else 1
theorem yjE {w:World} (c:Cm) (cv vv fv ea wa:Value) (M R:Bool)
  (hm:∀ W:World,Below w.heap.size w W→Calls Tryz.prog 28 #[.agg (cmL c cv vv fv ea wa).toArray] W fun e w'=>e=.returned (.bool M)∧Below W.heap.size W w')
  (hr:∀ W:World,Below w.heap.size w W→Calls Tryz.prog 29 #[.agg (cmL c cv vv fv ea wa).toArray] W fun e w'=>e=.returned (.bool R)∧Below W.heap.size W w') :
  Calls Tryz.prog 12 #[.agg (cmL c cv vv fv ea wa).toArray] w fun e w'=>e=.returned (.int .i64 (yeb M R))∧Below w.heap.size w w':=by
 have b0:=(Below.refl w.heap.size w).alloc (Nat.le_refl _) (.cells (cmL c cv vv fv ea wa).toArray 31)
 have k0:(w.alloc (.cells (cmL c cv vv fv ea wa).toArray 31)).heap[w.heap.size]?=some (.cells (cmL c cv vv fv ea wa).toArray 31):=heap_alloc_new _ _
 have hl:(cmL c cv vv fv ea wa).length=26:=rfl
 generalize cmL c cv vv fv ea wa=cs at hm hr b0 k0 hl ⊢
 have hsz:(Tryz.prog.info? 31).map (·.size)=some cs.length:=by rw [hl];exact Tryz.size31
 cases M with
 | true =>
  go_enter Tryz.func12,Tryz.ntmps12
  go_wp2_with (refine yaf 31 _ rfl rfl _ cs 31 _ rfl (by exact k0) Tryz.underlying31 rfl hsz ?_)
  refine (hm _ b0).mono ?_
  rintro e w1 ⟨rfl,b1⟩
  go_wp2
  go_ret
  exact ⟨rfl,b0.trans (b1.mono (by simp))⟩
 | false =>
  go_enter Tryz.func12,Tryz.ntmps12
  go_wp2_with (refine yaf 31 _ rfl rfl _ cs 31 _ rfl (by exact k0) Tryz.underlying31 rfl hsz ?_)
  refine (hm _ b0).mono ?_
  rintro e w1 ⟨rfl,b1⟩
  have k1:=(b1.block w.heap.size (by simp)).trans k0
  have q1:Below w.heap.size w w1:=b0.trans (b1.mono (by simp))
  clear k0 b0 b1 hm
  go_wp2_with (refine yaf 31 _ rfl rfl _ cs 31 _ rfl (by exact k1) Tryz.underlying31 rfl hsz ?_)
  refine (hr _ q1).mono ?_
  rintro e w2 ⟨rfl,b2⟩
  have q2:Below w.heap.size w w2:=q1.trans (b2.mono q1.size)
  cases R with
  | true =>
   go_wp2
   go_ret
   exact ⟨rfl,q2⟩
  | false =>
   go_wp2
   go_ret
   exact ⟨rfl,q2⟩
section
variable (ops:Array Oper) (L0:Array Bool) (a0:Act) (V:Nat→Value)
structure RunAt (listed:Array Bool) (a:Act):Prop where
 size:listed.size=ops.size
 defers:a.defers=a0.defers
 more:∀ j,L0.getD j true=true→listed.getD j true=true
 new:∀ j o d,ops[j]?=some o→L0.getD j true=false→listed.getD j true=true→o.dst=some d→a.tmps[d]?=some (V j)
 old:∀ d,(∀ j o,ops[j]?=some o→L0.getD j true=false→o.dst≠some d)→a.tmps[d]?=a0.tmps[d]?
 frame:a.tmps.size=a0.tmps.size
structure RunOk (P:Program) (md:Region.Mode) (Q:Exit→Act→World→Prop) (S:World→Prop):Prop where
 size:L0.size=ops.size
 back:∀ j o,ops[j]?=some o→L0.getD j true=false→∀ e ∈ o.after,e.on < j
 dst:∀ j o,ops[j]?=some o→L0.getD j true=false→∃ d,o.dst=some d∧d < a0.tmps.size
 one:∀ j k o p d,ops[j]?=some o→ops[k]?=some p→L0.getD j true=false→L0.getD k true=false→o.dst=some d→p.dst=some d→j=k
 runs:∀ j o listed a w,ops[j]?=some o→L0.getD j true=false→RunAt ops L0 a0 V listed a→(∀ e ∈ o.after,Region.binds md e=true→listed.getD e.on false=true)→S w →
  ∀ K:Act→World→Prop,(∀ w',S w'→K (a.put o.dst (V j)) w')→wpOp P ops Q j K a w
end
theorem ypr {ops:Array Oper} {L0 listed:Array Bool} {a0 a:Act} {V:Nat→Value} {md:Region.Mode} (back:∀ j o,ops[j]?=some o→L0.getD j true=false→∀ e ∈ o.after,e.on < j) (hd:RunAt ops L0 a0 V listed a) (hr:Region.ready md ops listed=[]):∀ j,j < ops.size→listed.getD j true=true:=by
 intro j
 induction j using Nat.strongRecOn with
 | _ j ih =>
  intro hj
  apply Classical.byContradiction
  intro hn
  have hn':listed.getD j true=false:=by simpa using hn
  have h0:L0.getD j true=false:=by
   cases e:L0.getD j true
   ·rfl
   ·rw [hd.more j e] at hn';cases hn'
  obtain ⟨o,ho⟩:∃ o,ops[j]?=some o:=⟨ops[j],Array.getElem?_eq_getElem hj⟩
  have hin:j ∈ Region.ready md ops listed:=by
   unfold Region.ready
   rw [List.mem_filter]
   refine ⟨List.mem_range.2 hj, ?_⟩
   rw [hn',ho]
   simp only [Bool.not_false,Bool.true_and,Option.map_some,Option.getD_some,Array.all_eq_true_iff_forall_mem]
   intro e he
   have hlt:=back j o ho h0 e he
   have hl:=ih e.on hlt (by omega)
   have hs:=hd.size
   have:listed.getD e.on false=true:=by
    simp only [Array.getD,show e.on < listed.size by omega,dif_pos] at hl ⊢
    exact hl
   rw [this];simp
  rw [hr] at hin
  cases hin
theorem ydd {P:Program} {Q:Exit→Act→World→Prop} {a:Act} {w:World} {id:Nat} {ops:Array Oper} (ops':Array Oper) {b:Bool} (e:ops=ops') (h:(Code.region id ops' b).wp P Q a w):(Code.region id ops b).wp P Q a w:=by
 rw [e];exact h
theorem yer {P:Program} {ops:Array Oper} {Q:Exit→Act→World→Prop} {S:World→Prop} {j:Nat} {o:Oper} {v:Value} {a:Act} {w:World} {K:Act→World→Prop} (hj:ops[j]?=some o) (hy:YieldsIf P ops S o v a) (hS:S w) (hK:∀ w',S w'→K (a.put o.dst v) w'):wpOp P ops Q j K a w :=
 hy.wpOp hj hS (hK w hS)
theorem yjt {P:Program} {ops:Array Oper} {Q:Exit→Act→World→Prop} {S:World→Prop} {j:Nat} {o:Oper} {v:Value} {a:Act} {w:World} {K:Act→World→Prop} (f:FuncId) (args:Array Value) (hj:ops[j]?=some o) (hw:Region.wanted o (yielded ops a.tmps)=true)
  (he:(execOp a.eval o).run P w=.ok (.enter f args) w) (hc:Calls P f args w fun e w'=>e=.returned v∧S w') (hK:∀ w',S w'→K (a.put o.dst v) w'):wpOp P ops Q j K a w:=by
 unfold wpOp
 rw [hj]
 simp only [hw,if_true]
 left
 unfold Oper.wp
 rw [he,Oper.upon_enter]
 refine hc.mono ?_
 rintro e w' ⟨rfl,hS⟩
 exact hK w' hS
theorem RunAt.slot {ops:Array Oper} {L0 listed:Array Bool} {a0 a:Act} {V:Nat→Value} {md:Region.Mode} {o:Oper} (hd:RunAt ops L0 a0 V listed a) (hl:∀ e ∈ o.after,Region.binds md e=true→listed.getD e.on false=true) (k s:Nat)
  (hk:o.after.any (fun e=>Region.binds md e&&e.on == k)=true) (h0:L0.getD k true=false) (hs:((ops[k]?).bind (·.dst))=some s):a.tmps[s]?=some (V k):=by
 obtain ⟨e,he,hb⟩:=Array.any_eq_true'.1 hk
 rw [Bool.and_eq_true,beq_iff_eq] at hb
 have h1:=hl e he hb.1
 rw [hb.2] at h1
 cases hp:ops[k]? with
 | none=>rw [hp] at hs;cases hs
 | some p =>
  rw [hp] at hs
  exact hd.new k p s hp h0 (yit h1) hs
theorem RunAt.base {ops:Array Oper} {L0 listed:Array Bool} {a0 a:Act} {V:Nat→Value} (hd:RunAt ops L0 a0 V listed a) (s:Nat) (h:ykp ops L0 s=true):a.tmps[s]?=a0.tmps[s]?:=by
 refine hd.old s fun j o hj h0=>?_
 have hlt:=(ltS hj)
 have:=List.all_eq_true.1 h j (List.mem_range.2 hlt)
 rw [h0,hj] at this
 simpa using this
def yaC (id:Nat):Code→Option (Array Oper)
 | .region i ops _=>if i=id then some ops else none
 | .seq a b=>(yaC id a).or (yaC id b)
 | .cond _ a b=>(yaC id a).or (yaC id b)
 | .block _ a=>yaC id a
 | .loop a=>yaC id a
 | .scope a=>yaC id a
 | _=>none
section
variable {P:Program} {ρ:Operand→Value} {o:Oper} {W:World}
theorem yai {x:Operand} (ho:o.op=.move x) {v:Value} (hx:ρ x=v):(execOp ρ o).run P W=.ok (.value v) W:=by simp [execOp,ho,hx]
theorem yaV {x:Operand} (ho:o.op=.assign x) {v:Value} (hx:ρ x=v):(execOp ρ o).run P W=.ok (.value v) W:=by simp [execOp,ho,hx]
theorem ylp {c x y:Operand} (ho:o.op=.pick c x y) {b:Bool} (hc:ρ c=.bool b):(execOp ρ o).run P W=.ok (.value (if b=true then ρ x else ρ y)) W:=by simp [execOp,ho,hc,asBool]
theorem yas {t:TypeId} {x:Operand} (ho:o.op=.load t x) {p v:Value} (hx:ρ x=p) (hr:(Instr.loadAt t p).run P W=.ok v W):(execOp ρ o).run P W=.ok (.value v) W:=by simp [execOp,ho,hx,hr]
theorem yaR {op:BinOp} {t u:TypeId} {x y:Operand} (ho:o.op=.binOp op t x y u) {p q v:Value} (hx:ρ x=p) (hy:ρ y=q) (hr:(do eqGuard op t x y p q;binOp op t p q:Sem Value).run P W=.ok v W):(execOp ρ o).run P W=.ok (.value v) W:=by
 have e:execOp ρ o=(do pure (.value (← (do eqGuard op t x y p q;binOp op t p q:Sem Value)))):=by simp only [execOp,ho,hx,hy]
 rw [e,Sem.run_bind,hr];rfl
theorem ynX {op:UnOp} {t:TypeId} {x:Operand} (ho:o.op=.unOp op t x) {p v:Value} (hx:ρ x=p) (hr:(Op.unary op p).run P W=.ok v W):(execOp ρ o).run P W=.ok (.value v) W:=by simp [execOp,ho,hx,hr]
end
theorem ld9 (W:World) (b o:Nat) (s:ByteArray) (h:W.cell? ⟨b,o,none⟩=some (.string s)):(Instr.loadAt 9 (.pointer (some ⟨b,o,none⟩))).run Tryz.prog W=.ok (.string s) W:=by go_simp
theorem ld3 (W:World) (b o:Nat) (n:Int) (h:W.cell? ⟨b,o,none⟩=some (.int .i64 n)):(Instr.loadAt 3 (.pointer (some ⟨b,o,none⟩))).run Tryz.prog W=.ok (.int .i64 n) W:=by go_simp
theorem ld4 (W:World) (b o:Nat) (n:Bool) (h:W.cell? ⟨b,o,none⟩=some (.bool n)):(Instr.loadAt 4 (.pointer (some ⟨b,o,none⟩))).run Tryz.prog W=.ok (.bool n) W:=by go_simp
theorem yrb (W:World) (b o:Nat) (v:Value) (h:W.cell? ⟨b,o,none⟩=some v):(Instr.loadAt 22 (.pointer (some ⟨b,o,none⟩))).run Tryz.prog W=.ok v W:=by go_simp
theorem yrM (W:World) (b o:Nat) (v:Value) (h:W.cell? ⟨b,o,none⟩=some v):(Instr.loadAt 25 (.pointer (some ⟨b,o,none⟩))).run Tryz.prog W=.ok v W:=by go_simp
theorem yrN (W:World) (b o:Nat) (v:Value) (h:W.cell? ⟨b,o,none⟩=some v):(Instr.loadAt 26 (.pointer (some ⟨b,o,none⟩))).run Tryz.prog W=.ok v W:=by go_simp
theorem yrL (W:World) (b o:Nat) (x y z:Value) (h:W.cell? ⟨b,o,none⟩=some x) (h1:W.cell? ⟨b,o+1,none⟩=some y) (h2:W.cell? ⟨b,o+2,none⟩=some z):(Instr.loadAt 24 (.pointer (some ⟨b,o,none⟩))).run Tryz.prog W=.ok (.agg #[x,y,z]) W:=by go_simp
section
variable {P:Program} {ρ:Operand→Value} {o:Oper} {W:World}
theorem yal {t:TypeId} {x:Operand} {f:Nat} (ho:o.op=.fieldAddr t x f) {p v:Value} (hx:ρ x=p) (hr:(Instr.fieldAt t p f).run P W=.ok v W):(execOp ρ o).run P W=.ok (.value v) W:=by simp [execOp,ho,hx,hr]
theorem ybm {f:FuncId} (hf:∀ args W,(callFunc f args).run P W=.ok (.enter f args) W) {x:Operand} {ts:Array TypeId} (ho:o.op=.call { callee:=.value (.func f),args:=#[x],argTypes:=ts }) {p:Value} (hρ:ρ (.func f)=.func (.func f) #[] #[]) (hx:ρ x=p):(execOp ρ o).run P W=.ok (.enter f #[p]) W:=by
 simp [execOp,ho,resolve,hρ,hx,invoke,go_sem,hf]
theorem ycT {f:FuncId} (hf:∀ args W,(callFunc f args).run P W=.ok (.enter f args) W) {x y:Operand} {ts:Array TypeId} (ho:o.op=.call { callee:=.value (.func f),args:=#[x,y],argTypes:=ts }) {p q:Value} (hρ:ρ (.func f)=.func (.func f) #[] #[]) (hx:ρ x=p) (hy:ρ y=q):(execOp ρ o).run P W=.ok (.enter f #[p,q]) W:=by
 simp [execOp,ho,resolve,hρ,hx,hy,invoke,go_sem,hf]
theorem yeY {f:FuncId} (hf:∀ args W,(callFunc f args).run P W=.ok (.enter f args) W) {t x y z:Operand} {ts:Array TypeId} (ho:o.op=.call { callee:=.value t,args:=#[x,y,z],argTypes:=ts }) {p q r n:Value} (ht:ρ t=.func (.func f) #[] #[n]) (hx:ρ x=p) (hy:ρ y=q) (hz:ρ z=r):(execOp ρ o).run P W=.ok (.enter f #[p,q,r,n]) W:=by
 simp [execOp,ho,resolve,ht,hx,hy,hz,invoke,go_sem,hf]
theorem ydh {x:Operand} {ts:Array TypeId} (ho:o.op=.call { callee:=.builtin .len,args:=#[x],argTypes:=ts }) {a:Option Addr} {n c:Nat} (hl:∀ ty,(Builtin.len_ ts ty #[.slice a n c]).run P W=.ok (.int .i64 (n:Int)) W) (hx:ρ x=.slice a n c):(execOp ρ o).run P W=.ok (.value (.int .i64 (n:Int))) W:=by
 simp [execOp,ho,resolve,hx,invoke,go_sem,hl]
end
theorem ycn {a:Act} {s:Nat} {v:Value} (h:a.tmps[s]?=some v):a.eval (.tmp s)=v:=by simp [Act.eval,h]
theorem yfK {o:Oper} {y:Nat→Option Bool} (h:o.guard=none):Region.wanted o y=true:=by simp [Region.wanted,h]
theorem fa1 (W:World) (b:Nat):(Instr.fieldAt 31 (.pointer (some ⟨b,0,none⟩)) 1).run Tryz.prog W=.ok (.pointer (some ⟨b,1,none⟩)) W:=by go_simp
theorem fa2 (W:World) (b:Nat):(Instr.fieldAt 31 (.pointer (some ⟨b,0,none⟩)) 2).run Tryz.prog W=.ok (.pointer (some ⟨b,2,none⟩)) W:=by go_simp
theorem fa3 (W:World) (b:Nat):(Instr.fieldAt 31 (.pointer (some ⟨b,0,none⟩)) 3).run Tryz.prog W=.ok (.pointer (some ⟨b,3,none⟩)) W:=by go_simp
theorem fa4 (W:World) (b:Nat):(Instr.fieldAt 31 (.pointer (some ⟨b,0,none⟩)) 4).run Tryz.prog W=.ok (.pointer (some ⟨b,4,none⟩)) W:=by go_simp
theorem fa5 (W:World) (b:Nat):(Instr.fieldAt 31 (.pointer (some ⟨b,0,none⟩)) 5).run Tryz.prog W=.ok (.pointer (some ⟨b,5,none⟩)) W:=by go_simp
theorem fa6 (W:World) (b:Nat):(Instr.fieldAt 31 (.pointer (some ⟨b,0,none⟩)) 6).run Tryz.prog W=.ok (.pointer (some ⟨b,6,none⟩)) W:=by go_simp
theorem fa7 (W:World) (b:Nat):(Instr.fieldAt 31 (.pointer (some ⟨b,0,none⟩)) 7).run Tryz.prog W=.ok (.pointer (some ⟨b,9,none⟩)) W:=by go_simp
theorem fa8 (W:World) (b:Nat):(Instr.fieldAt 31 (.pointer (some ⟨b,0,none⟩)) 8).run Tryz.prog W=.ok (.pointer (some ⟨b,10,none⟩)) W:=by go_simp
theorem fa9 (W:World) (b:Nat):(Instr.fieldAt 31 (.pointer (some ⟨b,0,none⟩)) 9).run Tryz.prog W=.ok (.pointer (some ⟨b,11,none⟩)) W:=by go_simp
theorem ytn (W:World) (b:Nat):(Instr.fieldAt 31 (.pointer (some ⟨b,0,none⟩)) 10).run Tryz.prog W=.ok (.pointer (some ⟨b,17,none⟩)) W:=by go_simp
theorem yrX (W:World) (b:Nat):(Instr.fieldAt 31 (.pointer (some ⟨b,0,none⟩)) 11).run Tryz.prog W=.ok (.pointer (some ⟨b,18,none⟩)) W:=by go_simp
theorem yrJ (W:World) (b:Nat):(Instr.fieldAt 31 (.pointer (some ⟨b,0,none⟩)) 12).run Tryz.prog W=.ok (.pointer (some ⟨b,24,none⟩)) W:=by go_simp
theorem yrY (W:World) (b:Nat):(Instr.fieldAt 31 (.pointer (some ⟨b,0,none⟩)) 13).run Tryz.prog W=.ok (.pointer (some ⟨b,25,none⟩)) W:=by go_simp
theorem ynK (W:World) (b o:Nat) (x0 x1 x2 x3 x4 x5:Value) (h:W.cell? ⟨b,o,none⟩=some x0) (h1:W.cell? ⟨b,o+1,none⟩=some x1) (h2:W.cell? ⟨b,o+2,none⟩=some x2) (h3:W.cell? ⟨b,o+3,none⟩=some x3) (h4:W.cell? ⟨b,o+4,none⟩=some x4) (h5:W.cell? ⟨b,o+5,none⟩=some x5):(Instr.loadAt 29 (.pointer (some ⟨b,o,none⟩))).run Tryz.prog W=.ok (.agg #[x0,x1,x2,x3,x4,x5]) W:=by go_simp
theorem eq9 (W:World) (x y:Operand) (l:List UInt8):(do eqGuard .eql 9 x y (.string ⟨l.toArray⟩) (.string ⟨#[]⟩);binOp .eql 9 (.string ⟨l.toArray⟩) (.string ⟨#[]⟩):Sem Value).run Tryz.prog W=.ok (.bool (decide (l=[]))) W:=by
 have e:l.isEmpty=decide (l=[]):=by cases l <;> simp
 rw [← e]
 go_simp
theorem yuX (W:World) (x y:Operand) (v:Vl):(do eqGuard .eql 24 x y (.agg #[.int .i64 v.k,.int .i64 v.n,.string ⟨v.s.toArray⟩]) (.agg #[.int .i64 0,.int .i64 0,.string ⟨#[]⟩]);binOp .eql 24 (.agg #[.int .i64 v.k,.int .i64 v.n,.string ⟨v.s.toArray⟩]) (.agg #[.int .i64 0,.int .i64 0,.string ⟨#[]⟩]):Sem Value).run Tryz.prog W=.ok (.bool (ybU v)) W:=by
 unfold ybU
 go_simp
 by_cases h1:v.k=0 <;> by_cases h2:v.n=0 <;> by_cases h3:v.s=[] <;> simp [h1,h2,h3]
theorem yuY (W:World) (x y:Operand) (n:Int):(do eqGuard .geq 3 x y (.int .i64 n) (.int .i64 (-1));binOp .geq 3 (.int .i64 n) (.int .i64 (-1)):Sem Value).run Tryz.prog W=.ok (.bool (decide (-1≤n))) W:=by go_simp
theorem ytp (W:World) (b:Bool):(Op.unary .not (.bool b)).run Tryz.prog W=.ok (.bool (!b)) W:=by go_simp
theorem yeE {ρ:Operand→Value} {o:Oper} {W:World} (ho:o.op=.build 24 #[]):(execOp ρ o).run Tryz.prog W=.ok (.value (.agg #[.int .i64 0,.int .i64 0,.string ⟨#[]⟩])) W:=by
 simp only [execOp,ho]
 go_simp
theorem yk0 (args:Array Value) (W:World):(callFunc 71 args).run Tryz.prog W=.ok (.enter 71 args) W:=by go_simp
theorem ytm (args:Array Value) (W:World):(callFunc 72 args).run Tryz.prog W=.ok (.enter 72 args) W:=by go_simp
theorem yuQ (args:Array Value) (W:World):(callFunc 73 args).run Tryz.prog W=.ok (.enter 73 args) W:=by go_simp
theorem yuR (args:Array Value) (W:World):(callFunc 74 args).run Tryz.prog W=.ok (.enter 74 args) W:=by go_simp
theorem yuS (args:Array Value) (W:World):(callFunc 75 args).run Tryz.prog W=.ok (.enter 75 args) W:=by go_simp
theorem yuT (args:Array Value) (W:World):(callFunc 76 args).run Tryz.prog W=.ok (.enter 76 args) W:=by go_simp
theorem yuU (args:Array Value) (W:World):(callFunc 77 args).run Tryz.prog W=.ok (.enter 77 args) W:=by go_simp
theorem yuV (args:Array Value) (W:World):(callFunc 78 args).run Tryz.prog W=.ok (.enter 78 args) W:=by go_simp
theorem yuD (args:Array Value) (W:World):(callFunc 79 args).run Tryz.prog W=.ok (.enter 79 args) W:=by go_simp
theorem yuW (args:Array Value) (W:World):(callFunc 80 args).run Tryz.prog W=.ok (.enter 80 args) W:=by go_simp
theorem yo2 (W:World) (a:Option Addr) (n c:Nat) (ty:TypeId):(Builtin.len_ #[22] ty #[.slice a n c]).run Tryz.prog W=.ok (.int .i64 (n:Int)) W:=by go_simp
theorem yo3 (W:World) (a:Option Addr) (n c:Nat) (ty:TypeId):(Builtin.len_ #[25] ty #[.slice a n c]).run Tryz.prog W=.ok (.int .i64 (n:Int)) W:=by go_simp
theorem yo4 (W:World) (a:Option Addr) (n c:Nat) (ty:TypeId):(Builtin.len_ #[26] ty #[.slice a n c]).run Tryz.prog W=.ok (.int .i64 (n:Int)) W:=by go_simp
end Go.Proofs.YtkpeklealgicpabGreatDoor
