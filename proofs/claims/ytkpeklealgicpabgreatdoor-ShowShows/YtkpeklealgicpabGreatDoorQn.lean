/-
  The document's ExprText: two parts.
  The document's ExprText, whole.
  The document's CmdText: the short ones.
  The document's CmdText: its regions that draw.
  What is shown of each kind of command, as the document joins it.
  The document's CmdText: add, delete, update, select.
  The document's CmdText: select.
  The document's CmdText: insert.
  The document's CmdText: create.
  The document's CmdText, of any command that is right.
-/
import Derived.Deep.MidRow
import Derived.Deep.AppendLies
import Derived.Deep.RegionHeldLaw
import Derived.Test.YtkpeklealgicpabGreatDoorQa
import Derived.Test.YtkpeklealgicpabGreatDoorQi
import Derived.Test.YtkpeklealgicpabGreatDoorQl
import Derived.Test.YtkpeklealgicpabGreatDoorQm

set_option maxRecDepth 100000
set_option maxHeartbeats 8000000
namespace Go.Proofs.YtkpeklealgicpabGreatDoor
open Go.RowKit
theorem yd8 (W:World) (x y:Operand) (s t:List UInt8) (h:s.length+t.length≤9000000000000000000):(do eqGuard .add 9 x y (.string ⟨s.toArray⟩) (.string ⟨t.toArray⟩);binOp .add 9 (.string ⟨s.toArray⟩) (.string ⟨t.toArray⟩):Sem Value).run Tryz.prog W=.ok (.string ⟨(s++t).toArray⟩) W:=by
 have z1:=yam s
 have z2:=yam t
 have y1:¬ (9223372036854775807 < s.length+t.length):=by omega
 rw [← yaz]
 go_simp
theorem yvt (W:World) (x y:Operand) (i:Nat) (h:i≤6):(do eqGuard .sub 3 x y (.int .i64 (5+(i:Int))) (.int .i64 5);binOp .sub 3 (.int .i64 (5+(i:Int))) (.int .i64 5):Sem Value).run Tryz.prog W=.ok (.int .i64 (i:Int)) W:=by
 have:i=0∨i=1∨i=2∨i=3∨i=4∨i=5∨i=6:=by omega
 rcases this with rfl|rfl|rfl|rfl|rfl|rfl|rfl <;> (go_simp;decide)
def yqF:Array Value:=#[.string ⟨#[97,110,100]⟩,.string ⟨#[111,114]⟩,.string ⟨#[43]⟩,.string ⟨#[45]⟩,.string ⟨#[124,124]⟩,.string ⟨#[60]⟩,.string ⟨#[61]⟩]
def opT (i:Nat):List UInt8:=([[97,110,100],[111,114],[43],[45],[124,124],[60],[61]]:List (List UInt8)).getD i []
theorem yry {ρ:Operand→Value} {o:Oper} {W:World} (hρ:∀ v,ρ (.const v)=v) (ho:o.op=.buildSlice 26 7 #[(0,.const (.string ⟨#[97,110,100]⟩)),(1,.const (.string ⟨#[111,114]⟩)),(2,.const (.string ⟨#[43]⟩)),(3,.const (.string ⟨#[45]⟩)),(4,.const (.string ⟨#[124,124]⟩)),(5,.const (.string ⟨#[60]⟩)),(6,.const (.string ⟨#[61]⟩))]) :
  (execOp ρ o).run Tryz.prog W=.ok (.value (.slice (some ⟨W.heap.size,0,none⟩) 7 7)) (W.alloc (.cells yqF 9)):=by
 unfold yqF
 simp only [execOp,ho]
 go_simp
theorem ytg (args:Array Value) (W:World):(callFunc 47 args).run Tryz.prog W=.ok (.enter 47 args) W:=by go_simp
theorem ym0 {W:World} {b:Nat} (h:W.heap[b]?=some (.cells yqF 9)) (i:Nat) (hi:i≤6):W.cell? ⟨b,0+i,none⟩=some (.string ⟨(opT i).toArray⟩):=by
 rw [Lib.cell_of_heap h]
 have:i=0∨i=1∨i=2∨i=3∨i=4∨i=5∨i=6:=by omega
 rcases this with rfl|rfl|rfl|rfl|rfl|rfl|rfl <;> rfl
noncomputable def xtR:Array Oper:=((Tryz.f47.body).bind (yas 10)).getD #[]
def xtD:List (Option Tmp):=[some 31,some 32,some 33,some 34,some 35,some 36,some 37,some 38,some 39,some 40,some 41,some 42,some 43,some 44,some 45,some 46,some 47,some 48,some 49,some 50,some 51,some 52,some 2]
def xtX (j:Nat):Bool:=j == 11 || j == 12
section
variable (g o ca rb i:Nat) (u1 u2:Value) (S1 S2:List UInt8)
def xtV (b j:Nat):Value:=([.pointer (some ⟨rb,5,none⟩),.slice (some ⟨g,o,none⟩) 2 ca,.pointer (some ⟨g,o+0*6,none⟩),u1,.string ⟨S1.toArray⟩,.string ⟨([40]++S1).toArray⟩,.string ⟨(([40]++S1)++[32]).toArray⟩,
 .slice (some ⟨b,0,none⟩) 7 7,.pointer (some ⟨rb,0,none⟩),.int .i64 (5+(i:Int)),.int .i64 (i:Int),.pointer (some ⟨b,0+i,none⟩),.string ⟨(opT i).toArray⟩,.string ⟨((([40]++S1)++[32])++opT i).toArray⟩,.string ⟨(((([40]++S1)++[32])++opT i)++[32]).toArray⟩,
 .pointer (some ⟨rb,5,none⟩),.slice (some ⟨g,o,none⟩) 2 ca,.pointer (some ⟨g,o+1*6,none⟩),u2,.string ⟨S2.toArray⟩,.string ⟨((((([40]++S1)++[32])++opT i)++[32])++S2).toArray⟩,.string ⟨(((((([40]++S1)++[32])++opT i)++[32])++S2)++[41]).toArray⟩,.string ⟨(((((([40]++S1)++[32])++opT i)++[32])++S2)++[41]).toArray⟩]:List Value).getD j undef
end
theorem yqC (i:Nat) (h:i≤6):(opT i).length≤3:=by
 have:i=0∨i=1∨i=2∨i=3∨i=4∨i=5∨i=6:=by omega
 rcases this with rfl|rfl|rfl|rfl|rfl|rfl|rfl <;> decide
theorem yur {g o ca rb i:Nat} {u1 u2:Value} {S1 S2:List UInt8} (hi:i≤6) (hS1:S1.length≤1000000) (hS2:S2.length≤1000000) {S:World→Prop} {a0:Act} {Q:Exit→Act→World→Prop} {w:World} (h1:a0.tmps[1]?=some (.pointer (some ⟨rb,0,none⟩))) (ha:a0.tmps.size=53)
  (hb0:∀ W,S W→W.cell? ⟨rb,0,none⟩=some (.int .i64 (5+(i:Int)))) (hb5:∀ W,S W→W.cell? ⟨rb,5,none⟩=some (.slice (some ⟨g,o,none⟩) 2 ca))
  (hl1:∀ W,S W→(Instr.loadAt 29 (.pointer (some ⟨g,o+0*6,none⟩))).run Tryz.prog W=.ok u1 W) (hl2:∀ W,S W→(Instr.loadAt 29 (.pointer (some ⟨g,o+1*6,none⟩))).run Tryz.prog W=.ok u2 W)
  (hk:∀ W W',S W→Below W.heap.size W W'→S W')
  (hc1:∀ W,S W→Calls Tryz.prog 47 #[u1] W fun e w'=>e=.returned (.string ⟨S1.toArray⟩)∧Below W.heap.size W w') (hc2:∀ W,S W→Calls Tryz.prog 47 #[u2] W fun e w'=>e=.returned (.string ⟨S2.toArray⟩)∧Below W.heap.size W w') (hS:S w)
  (hq:∀ b w',S w'→Q .normal { tmps:=(ydW a0.tmps.toList (xtD.zip ((List.range 23).map (xtV g o ca rb i u1 u2 S1 S2 b)))).toArray,defers:=a0.defers } w'):(Code.region 10 xtR true).wp Tryz.prog Q a0 w:=by
 have hz:xtR.size=23:=by kernel_rfl
 have hoT:=yqC i hi
 refine yq3 (m:=53) (V:=xtV g o ca rb i u1 u2 S1 S2) (S:=S) (T:=fun b w=>w.heap[b]?=some (.cells yqF 9)) (by kernel_rfl) hz (by kernel_rfl) (by kernel_rfl) (by unfold xtD;decide) ha 7 xtX (by kernel_rfl) ?_ rfl (by decide) ?_ ?_ ?_ ?_ (hk _ _ hS (Below.refl _ _).drew) (fun b w' h _=>hq b w' h)
 ·intro j hj
  simp only [xtX,Bool.or_eq_true,beq_iff_eq] at hj
  omega
 ·intro b b' j hX hj
  have h11:j≠11:=by rintro rfl;cases hX
  have:∀ j,j < 23→j≠7→j≠11→xtV g o ca rb i u1 u2 S1 S2 b j=xtV g o ca rb i u1 u2 S1 S2 b' j:=by
   refine us (us (us (us (us (us (us (us (us (us (us (us (us (us (us (us (us (us (us (us (us (us (us ?_ ?_) ?_) ?_) ?_) ?_) ?_) ?_) ?_) ?_) ?_) ?_) ?_) ?_) ?_) ?_) ?_) ?_) ?_) ?_) ?_) ?_) ?_) ?_
   ·exact fun j hj=>absurd hj (Nat.not_lt_zero j)
   all_goals first|exact fun _ _=>rfl|exact fun h=>absurd rfl h|exact fun _ h=>absurd rfl h
  by_cases hlt:j < 23
  ·exact this j hlt hj h11
  ·have e:∀ b,xtV g o ca rb i u1 u2 S1 S2 b j=undef:=by
    intro b
    unfold xtV
    rw [List.getD_eq_getElem?_getD,List.getElem?_eq_none (by simp;omega)];rfl
   rw [e,e]
 ·intro b w w' h hB
  exact (hB.block b (ltS h)).trans h
 ·intro b W0
  suffices h:∀ j,j < 23→j≠7→ObR Tryz.prog xtR 23 a0 (xtV g o ca rb i u1 u2 S1 S2 b) Q (fun w=>S w∧Below W0.heap.size W0 w∧(xtX j=true→w.heap[b]?=some (.cells yqF 9))) j from fun j hj hne=>h j hj hne
  have cl:∀ {u:Value} {s:List UInt8} {X:Bool} (hX:X=false),(∀ W,S W→Calls Tryz.prog 47 #[u] W fun e w'=>e=.returned (.string ⟨s.toArray⟩)∧Below W.heap.size W w')→∀ W,(S W∧Below W0.heap.size W0 W∧(X=true→W.heap[b]?=some (.cells yqF 9)))→Calls Tryz.prog 47 #[u] W fun e w'=>e=.returned (.string ⟨s.toArray⟩)∧S w'∧Below W0.heap.size W0 w'∧(X=true→w'.heap[b]?=some (.cells yqF 9)):=by
   intro u s X hX h W hW
   refine (h W hW.1).mono ?_
   rintro e w' ⟨rfl,hB⟩
   exact ⟨rfl,hk _ _ hW.1 hB,hW.2.1.trans (hB.mono hW.2.1.size),fun h=>by rw [hX] at h;cases h⟩
  refine us ?_ (fun _=>ya1 hz (by decide) (by kernel_rfl) fun _ _ s _=>yaA (x:=.tmp 52) (by kernel_rfl) (s.u 21 52 (by kernel_rfl)))
  refine us ?_ (fun _=>ya1 hz (by decide) (by kernel_rfl) fun _ W s _=>yaq (u:=9) (x:=.tmp 51) (y:=.const (.string ⟨#[41]⟩)) (by kernel_rfl) (s.u 20 51 (by kernel_rfl)) rfl (yd8 W _ _ _ [41] (by simp;omega)))
  refine us ?_ (fun _=>ya1 hz (by decide) (by kernel_rfl) fun _ W s _=>yaq (u:=9) (x:=.tmp 45) (y:=.tmp 50) (by kernel_rfl) (s.u 14 45 (by kernel_rfl)) (s.u 19 50 (by kernel_rfl)) (yd8 W _ _ _ _ (by simp;omega)))
  refine us ?_ (fun _=>yol hz (by decide) (by kernel_rfl) (fun _ _ s=>yaP (ts:=#[29]) (x:=.tmp 49) (f:=47) ytg (by kernel_rfl) rfl (s.u 18 49 (by kernel_rfl))) (cl rfl hc2))
  refine us ?_ (fun _=>ya1 hz (by decide) (by kernel_rfl) fun _ W s hS=>yaf (x:=.tmp 48) (t:=29) (by kernel_rfl) (s.u 17 48 (by kernel_rfl)) (hl2 W hS.1))
  refine us ?_ (fun _=>ya1 hz (by decide) (by kernel_rfl) fun _ W s _=>ycm (x:=.tmp 47) (y:=.const (.int .i64 1)) (t:=27) (by kernel_rfl) (s.u 16 47 (by kernel_rfl)) rfl (yuE W g o 2 ca 1 (by decide)))
  refine us ?_ (fun _=>ya1 hz (by decide) (by kernel_rfl) fun _ W s hS=>yaf (x:=.tmp 46) (t:=27) (by kernel_rfl) (s.u 15 46 (by kernel_rfl)) (yua W _ 5 _ (hb5 W hS.1)))
  refine us ?_ (fun _=>ya1 hz (by decide) (by kernel_rfl) fun _ W s _=>yad (x:=.tmp 1) (t:=29) (f:=3) (by kernel_rfl) (s.b 1 (by kernel_rfl) h1) (fx3 W _))
  refine us ?_ (fun _=>ya1 hz (by decide) (by kernel_rfl) fun _ W s _=>yaq (u:=9) (x:=.tmp 44) (y:=.const (.string ⟨#[32]⟩)) (by kernel_rfl) (s.u 13 44 (by kernel_rfl)) rfl (yd8 W _ _ _ [32] (by simp;omega)))
  refine us ?_ (fun _=>ya1 hz (by decide) (by kernel_rfl) fun _ W s _=>yaq (u:=9) (x:=.tmp 37) (y:=.tmp 43) (by kernel_rfl) (s.u 6 37 (by kernel_rfl)) (s.u 12 43 (by kernel_rfl)) (yd8 W _ _ _ _ (by simp;omega)))
  refine us ?_ (fun _=>ya1 hz (by decide) (by kernel_rfl) fun _ W s hS=>yaf (x:=.tmp 42) (t:=9) (by kernel_rfl) (s.u 11 42 (by kernel_rfl)) (ld9 W _ _ _ (ym0 (hS.2.2 rfl) i hi)))
  refine us ?_ (fun _=>ya1 hz (by decide) (by kernel_rfl) fun _ W s _=>ycm (x:=.tmp 38) (y:=.tmp 41) (t:=26) (by kernel_rfl) (s.u 7 38 (by kernel_rfl)) (s.u 10 41 (by kernel_rfl)) (ytC W b 0 7 7 i (by omega)))
  refine us ?_ (fun _=>ya1 hz (by decide) (by kernel_rfl) fun _ W s _=>yaq (u:=3) (x:=.tmp 40) (y:=.const (.int .i64 5)) (by kernel_rfl) (s.u 9 40 (by kernel_rfl)) rfl (yvt W _ _ i hi))
  refine us ?_ (fun _=>ya1 hz (by decide) (by kernel_rfl) fun _ W s hS=>yaf (x:=.tmp 39) (t:=3) (by kernel_rfl) (s.u 8 39 (by kernel_rfl)) (ld3 W _ 0 _ (hb0 W hS.1)))
  refine us ?_ (fun _=>ya1 hz (by decide) (by kernel_rfl) fun _ W s _=>yad (x:=.tmp 1) (t:=29) (f:=0) (by kernel_rfl) (s.b 1 (by kernel_rfl) h1) (fx0 W _))
  refine us ?_ (fun h=>absurd rfl h)
  refine us ?_ (fun _=>ya1 hz (by decide) (by kernel_rfl) fun _ W s _=>yaq (u:=9) (x:=.tmp 36) (y:=.const (.string ⟨#[32]⟩)) (by kernel_rfl) (s.u 5 36 (by kernel_rfl)) rfl (yd8 W _ _ _ [32] (by simp;omega)))
  refine us ?_ (fun _=>ya1 hz (by decide) (by kernel_rfl) fun _ W s _=>yaq (u:=9) (x:=.const (.string ⟨#[40]⟩)) (y:=.tmp 35) (by kernel_rfl) rfl (s.u 4 35 (by kernel_rfl)) (yd8 W _ _ [40] _ (by simp;omega)))
  refine us ?_ (fun _=>yol hz (by decide) (by kernel_rfl) (fun _ _ s=>yaP (ts:=#[29]) (x:=.tmp 34) (f:=47) ytg (by kernel_rfl) rfl (s.u 3 34 (by kernel_rfl))) (cl rfl hc1))
  refine us ?_ (fun _=>ya1 hz (by decide) (by kernel_rfl) fun _ W s hS=>yaf (x:=.tmp 33) (t:=29) (by kernel_rfl) (s.u 2 33 (by kernel_rfl)) (hl1 W hS.1))
  refine us ?_ (fun _=>ya1 hz (by decide) (by kernel_rfl) fun _ W s _=>ycm (x:=.tmp 32) (y:=.const (.int .i64 0)) (t:=27) (by kernel_rfl) (s.u 1 32 (by kernel_rfl)) rfl (yuE W g o 2 ca 0 (by decide)))
  refine us ?_ (fun _=>ya1 hz (by decide) (by kernel_rfl) fun _ W s hS=>yaf (x:=.tmp 31) (t:=27) (by kernel_rfl) (s.u 0 31 (by kernel_rfl)) (yua W _ 5 _ (hb5 W hS.1)))
  refine us ?_ (fun _=>ya1 hz (by decide) (by kernel_rfl) fun _ W s _=>yad (x:=.tmp 1) (t:=29) (f:=3) (by kernel_rfl) (s.b 1 (by kernel_rfl) h1) (fx3 W _))
  exact fun j hj=>absurd hj (Nat.not_lt_zero j)
 ·intro b o' listed a W ho hd hdep hSW K hK
  obtain rfl:o'=oAt xtR 7:=Option.some.inj (ho.symm.trans (yb3 hz (by decide)))
  exact yoA ho (ydp (by kernel_rfl)) (yry (fun _=>rfl) (by kernel_rfl)) (hK W.heap.size _ (hk _ _ hSW ((Below.refl _ _).alloc (Nat.le_refl _) _)) (heap_alloc_new _ _))
theorem yiO {W:World} {g o:Nat} {u:Value} (h:Six W g o u):(Instr.loadAt 29 (.pointer (some ⟨g,o,none⟩))).run Tryz.prog W=.ok u W:=by
 obtain ⟨k,x,nm,a,rfl,h0,h1,h2,h3,h4,h5⟩:=h
 exact ygD W g o _ _ _ _ _ _ h0 h1 h2 h3 h4 h5
theorem ys2 (g o ca i:Nat) (hi:i≤6) (u1 u2:Value) (S1 S2:List UInt8) (W:World) (lt:g < W.heap.size) (x1:Six W g (o+0*6) u1) (x2:Six W g (o+1*6) u2) (hS1:S1.length≤1000000) (hS2:S2.length≤1000000)
  (h1:∀ W',Below W.heap.size W W'→Calls Tryz.prog 47 #[u1] W' fun e w'=>e=.returned (.string ⟨S1.toArray⟩)∧Below W'.heap.size W' w')
  (h2:∀ W',Below W.heap.size W W'→Calls Tryz.prog 47 #[u2] W' fun e w'=>e=.returned (.string ⟨S2.toArray⟩)∧Below W'.heap.size W' w') :
  Calls Tryz.prog 47 #[exV (5+(i:Int)) vl0 [] (.slice (some ⟨g,o,none⟩) 2 ca)] W fun e w'=>e=.returned (.string ⟨(((((([40]++S1)++[32])++opT i)++[32])++S2)++[41]).toArray⟩)∧Below W.heap.size W w':=by
 have q1:(5+(i:Int) == 1)=false:=by rw [beq_eq_false_iff_ne];omega
 have q2:(5+(i:Int) == 2)=false:=by rw [beq_eq_false_iff_ne];omega
 have q3:(5+(i:Int) == 3)=false:=by rw [beq_eq_false_iff_ne];omega
 have q4:(5+(i:Int) == 4)=false:=by rw [beq_eq_false_iff_ne];omega
 have b0:=(Below.refl W.heap.size W).alloc (Nat.le_refl _) (.cells #[.int .i64 (5+(i:Int)),.int .i64 0,.int .i64 0,.string ⟨#[]⟩,.string ⟨#[]⟩,.slice (some ⟨g,o,none⟩) 2 ca] 29)
 have k0:=heap_alloc_new W (.cells #[.int .i64 (5+(i:Int)),.int .i64 0,.int .i64 0,.string ⟨#[]⟩,.string ⟨#[]⟩,.slice (some ⟨g,o,none⟩) 2 ca] 29)
 have H0:=yaa (And.intro b0 k0)
 have H1:=yaa h1
 have H2:=yaa h2
 have X1:=yaa x1
 have X2:=yaa x2
 clear h1 h2 b0 k0 x1 x2
 unfold exV vl0
 go_enter Tryz.func47,Tryz.ntmps47
 go_wp2_with fail
 refine yaT xtR (by kernel_rfl) ?_
 refine yur (g:=g) (o:=o) (ca:=ca) (rb:=W.heap.size) (i:=i) (u1:=u1) (u2:=u2) (S1:=S1) (S2:=S2) hi hS1 hS2 (S:=fun w'=>Below W.heap.size W w'∧w'.heap[W.heap.size]?=some (.cells #[.int .i64 (5+(i:Int)),.int .i64 0,.int .i64 0,.string ⟨#[]⟩,.string ⟨#[]⟩,.slice (some ⟨g,o,none⟩) 2 ca] 29)) rfl rfl
  (fun W' h=>by rw [Lib.cell_of_heap h.2];rfl) (fun W' h=>by rw [Lib.cell_of_heap h.2];rfl) (fun W' h=>yiO (X1.out.keep (h.1.block g lt))) (fun W' h=>yiO (X2.out.keep (h.1.block g lt)))
  (fun W1 W2 h hB=>⟨h.1.trans (hB.mono h.1.size),(hB.block _ (ltS h.2)).trans h.2⟩) (fun W' h=>H1.out W' h.1) (fun W' h=>H2.out W' h.1) H0.out ?_
 intro b w' hS
 refine ‹∀ (a:Act) (w:World),Code.wp _ _ _ a w→_› _ _ ?_
 refine wp_ret ?_
 exact ybv 22 rfl (by unfold xtD;decide) rfl rfl (by simp) ⟨rfl,hS.1⟩
theorem ycf {x:Ex} (h:RightE x) (hs:yaQ x≤60):(ycM x).length≤1000000:=by
 have h1:=yg0 (yat x) (ye1 h)
 have h2:=yd2 h
 unfold ycM
 omega
theorem yss (i:Nat) (h:i≤6):atL ya3 (5+(i:Int))=opT i:=by
 have:i=0∨i=1∨i=2∨i=3∨i=4∨i=5∨i=6:=by omega
 rcases this with rfl|rfl|rfl|rfl|rfl|rfl|rfl <;> rfl
theorem ymU {x:Ex} (h:RightE x):yaQ x≤60→∀ (u:Value) (W:World),ExAt 0 W u x→Calls Tryz.prog 47 #[u] W fun e w'=>e=.returned (.string ⟨(ycM x).toArray⟩)∧Below W.heap.size W w':=by
 induction h with
 | val v hv =>
  intro _ u W hu
  obtain ⟨ao,ca,us,rfl,-⟩:=hu.spread
  rw [ym8]
  exact ys3 v hv ao _ ca W
 | col nm hn =>
  intro _ u W hu
  obtain ⟨ao,ca,us,rfl,-⟩:=hu.spread
  rw [ym5]
  exact ys0 nm ao _ ca W
 | not a ha ih =>
  intro hs u W hu
  obtain ⟨ao,ca,us,rfl,h1⟩:=hu.spread
  obtain ⟨g,o,rfl,-,hg,hc,hx⟩:=h1 (by simp [Ex.args])
  obtain ⟨ky,vy,ny,ay,ey,t0,t1,t2,t3,t4,t5⟩:=hc 0 (by simp [Ex.args])
  have ha':yaQ a≤60:=by simp [yaQ,ybl] at hs;omega
  rw [ym6 ha]
  refine ys1 g o ca ky vy ny ay (ycM a) W ⟨hg,t0,t1,t2,t3,t4,t5⟩ (ycf ha ha') _ ?_ (fun W' hB=>?_)
  ·show (⟨#[110,111,116,32]⟩++⟨(ycM a).toArray⟩:ByteArray)=_
   have:=yaz [110,111,116,32] (ycM a)
   exact this
  ·have:=ih ha' _ W' ((hx 0 a rfl).under hB)
   rw [ey] at this
   exact this
 | null a ha ih =>
  intro hs u W hu
  obtain ⟨ao,ca,us,rfl,h1⟩:=hu.spread
  obtain ⟨g,o,rfl,-,hg,hc,hx⟩:=h1 (by simp [Ex.args])
  obtain ⟨ky,vy,ny,ay,ey,t0,t1,t2,t3,t4,t5⟩:=hc 0 (by simp [Ex.args])
  have ha':yaQ a≤60:=by simp [yaQ,ybl] at hs;omega
  rw [ykD ha]
  refine yq6 g o ca ky vy ny ay (ycM a) W ⟨hg,t0,t1,t2,t3,t4,t5⟩ (ycf ha ha') _ ?_ (fun W' hB=>?_)
  ·show ((⟨#[40]⟩++⟨(ycM a).toArray⟩)++⟨#[32,105,115,32,110,117,108,108,41]⟩:ByteArray)=_
   have e1:=yaz [40] (ycM a)
   have e2:=yaz ([40]++ycM a) [32,105,115,32,110,117,108,108,41]
   rw [← e1] at e2
   exact e2
  ·have:=ih ha' _ W' ((hx 0 a rfl).under hB)
   rw [ey] at this
   exact this
 | two k hk a b ha hb iha ihb =>
  intro hs u W hu
  obtain ⟨ao,ca,us,rfl,h1⟩:=hu.spread
  obtain ⟨g,o,rfl,-,hg,hc,hx⟩:=h1 (by simp [Ex.args])
  have hss:yaQ a≤60∧yaQ b≤60:=by simp [yaQ,ybl] at hs;omega
  obtain ⟨i,rfl,hi⟩:∃ i:Nat,k=5+(i:Int)∧i≤6:=⟨(k - 5).toNat,by omega,by omega⟩
  rw [ym7 hk ha hb,yss i hi]
  have c0:=hc 0 (by simp [Ex.args])
  have c1:=hc 1 (by simp [Ex.args])
  rw [Nat.mul_comm] at c0 c1
  exact ys2 g o ca i hi (us 0) (us 1) (ycM a) (ycM b) W hg c0 c1 (ycf ha hss.1) (ycf hb hss.2) (fun W' hB=>iha hss.1 _ W' ((hx 0 a rfl).under hB)) (fun W' hB=>ihb hss.2 _ W' ((hx 1 b rfl).under hB))
theorem yuS (n:List UInt8) (hn:n.length≤1000)  (cv vv fv ea wa:Value) (W:World) :
  Calls Tryz.prog 18 #[.agg (cmL { cm0 with kind:=2,name:=n } cv vv fv ea wa).toArray] W fun e w'=>e=.returned (.string ⟨([100,114,111,112,32,116,97,98,108,101,32]++n).toArray⟩)∧Below W.heap.size W w':=by
 have B0:=yaa ((Below.refl W.heap.size W).alloc (Nat.le_refl _) (.cells (cmL { cm0 with kind:=2,name:=n } cv vv fv ea wa).toArray 31))
 have zn:=yam n
 have hb:=fun W=>yaC (n:=2) (a:=11) (b:=13) (r:=false) (by decide) W
 simp only [← yaz]
 unfold cmL
 simp only [cm0]
 go_enter Tryz.func18,Tryz.ntmps18
 go_wp2_with (go_at_call 31;refine (hb _).mono ?_;rintro e w1 ⟨rfl,rfl⟩)
 go_ret
 exact ⟨rfl,by first|exact B0.out|exact B0.out.alloc B0.out.size _|exact (B0.out.alloc B0.out.size _).alloc (B0.out.alloc B0.out.size _).size _⟩
theorem yuU (n c:List UInt8) (hn:n.length≤1000) (hc:c.length≤1000)  (cv vv fv ea wa:Value) (W:World) :
  Calls Tryz.prog 18 #[.agg (cmL { cm0 with kind:=4,name:=n,column:=c } cv vv fv ea wa).toArray] W fun e w'=>e=.returned (.string ⟨(((([97,108,116,101,114,32,116,97,98,108,101,32]++n)++[32])++[100,114,111,112,32])++c).toArray⟩)∧Below W.heap.size W w':=by
 have B0:=yaa ((Below.refl W.heap.size W).alloc (Nat.le_refl _) (.cells (cmL { cm0 with kind:=4,name:=n,column:=c } cv vv fv ea wa).toArray 31))
 have zn:=yam n
 have zc:=yam c
 have hb:=fun W=>yaC (n:=4) (a:=11) (b:=13) (r:=false) (by decide) W
 simp only [← yaz]
 unfold cmL
 simp only [cm0]
 go_enter Tryz.func18,Tryz.ntmps18
 go_wp2_with (go_at_call 31;refine (hb _).mono ?_;rintro e w1 ⟨rfl,rfl⟩)
 go_ret
 exact ⟨rfl,by first|exact B0.out|exact B0.out.alloc B0.out.size _|exact (B0.out.alloc B0.out.size _).alloc (B0.out.alloc B0.out.size _).size _⟩
theorem yuV (n c o:List UInt8) (hn:n.length≤1000) (hc:c.length≤1000) (ho:o.length≤1000)  (cv vv fv ea wa:Value) (W:World) :
  Calls Tryz.prog 18 #[.agg (cmL { cm0 with kind:=5,name:=n,column:=c,other:=o } cv vv fv ea wa).toArray] W fun e w'=>e=.returned (.string ⟨(((((([97,108,116,101,114,32,116,97,98,108,101,32]++n)++[32])++[114,101,110,97,109,101,32])++c)++[32,116,111,32])++o).toArray⟩)∧Below W.heap.size W w':=by
 have B0:=yaa ((Below.refl W.heap.size W).alloc (Nat.le_refl _) (.cells (cmL { cm0 with kind:=5,name:=n,column:=c,other:=o } cv vv fv ea wa).toArray 31))
 have zn:=yam n
 have zc:=yam c
 have zo:=yam o
 have hb:=fun W=>yaC (n:=5) (a:=11) (b:=13) (r:=false) (by decide) W
 simp only [← yaz]
 unfold cmL
 simp only [cm0]
 go_enter Tryz.func18,Tryz.ntmps18
 go_wp2_with (go_at_call 31;refine (hb _).mono ?_;rintro e w1 ⟨rfl,rfl⟩)
 go_ret
 exact ⟨rfl,by first|exact B0.out|exact B0.out.alloc B0.out.size _|exact (B0.out.alloc B0.out.size _).alloc (B0.out.alloc B0.out.size _).size _⟩
theorem yuW (n o:List UInt8) (hn:n.length≤1000) (ho:o.length≤1000)  (cv vv fv ea wa:Value) (W:World) :
  Calls Tryz.prog 18 #[.agg (cmL { cm0 with kind:=7,name:=n,other:=o } cv vv fv ea wa).toArray] W fun e w'=>e=.returned (.string ⟨(((([97,108,116,101,114,32,116,97,98,108,101,32]++n)++[32])++[114,101,110,97,109,101,32,116,111,32])++o).toArray⟩)∧Below W.heap.size W w':=by
 have B0:=yaa ((Below.refl W.heap.size W).alloc (Nat.le_refl _) (.cells (cmL { cm0 with kind:=7,name:=n,other:=o } cv vv fv ea wa).toArray 31))
 have zn:=yam n
 have zo:=yam o
 have hb:=fun W=>yaC (n:=7) (a:=11) (b:=13) (r:=false) (by decide) W
 simp only [← yaz]
 unfold cmL
 simp only [cm0]
 go_enter Tryz.func18,Tryz.ntmps18
 go_wp2_with (go_at_call 31;refine (hb _).mono ?_;rintro e w1 ⟨rfl,rfl⟩)
 go_ret
 exact ⟨rfl,by first|exact B0.out|exact B0.out.alloc B0.out.size _|exact (B0.out.alloc B0.out.size _).alloc (B0.out.alloc B0.out.size _).size _⟩
theorem yuX (n c o:List UInt8) (hn:n.length≤1000) (hc:c.length≤1000) (ho:o.length≤1000)  (cv vv fv ea wa:Value) (W:World) :
  Calls Tryz.prog 18 #[.agg (cmL { cm0 with kind:=8,name:=n,other:=o,column:=c } cv vv fv ea wa).toArray] W fun e w'=>e=.returned (.string ⟨(((((([99,114,101,97,116,101,32,105,110,100,101,120,32]++n)++[32,111,110,32])++o)++[32,40])++c)++[41]).toArray⟩)∧Below W.heap.size W w':=by
 have B0:=yaa ((Below.refl W.heap.size W).alloc (Nat.le_refl _) (.cells (cmL { cm0 with kind:=8,name:=n,other:=o,column:=c } cv vv fv ea wa).toArray 31))
 have zn:=yam n
 have zc:=yam c
 have zo:=yam o
 have hb:=fun W=>yaC (n:=8) (a:=11) (b:=13) (r:=false) (by decide) W
 simp only [← yaz]
 unfold cmL
 simp only [cm0]
 go_enter Tryz.func18,Tryz.ntmps18
 go_wp2_with (go_at_call 31;refine (hb _).mono ?_;rintro e w1 ⟨rfl,rfl⟩)
 go_ret
 exact ⟨rfl,by first|exact B0.out|exact B0.out.alloc B0.out.size _|exact (B0.out.alloc B0.out.size _).alloc (B0.out.alloc B0.out.size _).size _⟩
theorem yuY (n:List UInt8) (hn:n.length≤1000)  (cv vv fv ea wa:Value) (W:World) :
  Calls Tryz.prog 18 #[.agg (cmL { cm0 with kind:=9,name:=n } cv vv fv ea wa).toArray] W fun e w'=>e=.returned (.string ⟨([100,114,111,112,32,105,110,100,101,120,32]++n).toArray⟩)∧Below W.heap.size W w':=by
 have B0:=yaa ((Below.refl W.heap.size W).alloc (Nat.le_refl _) (.cells (cmL { cm0 with kind:=9,name:=n } cv vv fv ea wa).toArray 31))
 have zn:=yam n
 have hb:=fun W=>yaC (n:=9) (a:=11) (b:=13) (r:=false) (by decide) W
 simp only [← yaz]
 unfold cmL
 simp only [cm0]
 go_enter Tryz.func18,Tryz.ntmps18
 go_wp2_with (go_at_call 31;refine (hb _).mono ?_;rintro e w1 ⟨rfl,rfl⟩)
 go_ret
 exact ⟨rfl,by first|exact B0.out|exact B0.out.alloc B0.out.size _|exact (B0.out.alloc B0.out.size _).alloc (B0.out.alloc B0.out.size _).size _⟩
theorem ytn   (cv vv fv ea wa:Value) (W:World) :
  Calls Tryz.prog 18 #[.agg (cmL { cm0 with kind:=14 } cv vv fv ea wa).toArray] W fun e w'=>e=.returned (.string ⟨[98,101,103,105,110].toArray⟩)∧Below W.heap.size W w':=by
 have B0:=yaa ((Below.refl W.heap.size W).alloc (Nat.le_refl _) (.cells (cmL { cm0 with kind:=14 } cv vv fv ea wa).toArray 31))
 have hb:=fun W=>yaC (n:=14) (a:=11) (b:=13) (r:=false) (by decide) W
 unfold cmL
 simp only [cm0]
 go_enter Tryz.func18,Tryz.ntmps18
 go_wp2_with (go_at_call 31;refine (hb _).mono ?_;rintro e w1 ⟨rfl,rfl⟩)
 go_ret
 exact ⟨rfl,by first|exact B0.out|exact B0.out.alloc B0.out.size _|exact (B0.out.alloc B0.out.size _).alloc (B0.out.alloc B0.out.size _).size _⟩
theorem yto   (cv vv fv ea wa:Value) (W:World) :
  Calls Tryz.prog 18 #[.agg (cmL { cm0 with kind:=15 } cv vv fv ea wa).toArray] W fun e w'=>e=.returned (.string ⟨[99,111,109,109,105,116].toArray⟩)∧Below W.heap.size W w':=by
 have B0:=yaa ((Below.refl W.heap.size W).alloc (Nat.le_refl _) (.cells (cmL { cm0 with kind:=15 } cv vv fv ea wa).toArray 31))
 have hb:=fun W=>yaC (n:=15) (a:=11) (b:=13) (r:=false) (by decide) W
 unfold cmL
 simp only [cm0]
 go_enter Tryz.func18,Tryz.ntmps18
 go_wp2_with (go_at_call 31;refine (hb _).mono ?_;rintro e w1 ⟨rfl,rfl⟩)
 go_ret
 exact ⟨rfl,by first|exact B0.out|exact B0.out.alloc B0.out.size _|exact (B0.out.alloc B0.out.size _).alloc (B0.out.alloc B0.out.size _).size _⟩
theorem ytp   (cv vv fv ea wa:Value) (W:World) :
  Calls Tryz.prog 18 #[.agg (cmL { cm0 with kind:=16 } cv vv fv ea wa).toArray] W fun e w'=>e=.returned (.string ⟨[114,111,108,108,98,97,99,107].toArray⟩)∧Below W.heap.size W w':=by
 have B0:=yaa ((Below.refl W.heap.size W).alloc (Nat.le_refl _) (.cells (cmL { cm0 with kind:=16 } cv vv fv ea wa).toArray 31))
 have hb:=fun W=>yaC (n:=16) (a:=11) (b:=13) (r:=false) (by decide) W
 unfold cmL
 simp only [cm0]
 go_enter Tryz.func18,Tryz.ntmps18
 go_wp2_with (go_at_call 31;refine (hb _).mono ?_;rintro e w1 ⟨rfl,rfl⟩)
 go_ret
 exact ⟨rfl,by first|exact B0.out|exact B0.out.alloc B0.out.size _|exact (B0.out.alloc B0.out.size _).alloc (B0.out.alloc B0.out.size _).size _⟩
theorem yrm (n c:List UInt8) (hn:n.length≤1000) (hc:c.length≤1000)  (cv vv fv ea wa:Value) (W:World) :
  Calls Tryz.prog 18 #[.agg (cmL { cm0 with kind:=6,name:=n,column:=c,ty:=1 } cv vv fv ea wa).toArray] W fun e w'=>e=.returned (.string ⟨(((((([97,108,116,101,114,32,116,97,98,108,101,32]++n)++[32])++[114,101,116,121,112,101,32])++c)++[32])++[105,110,116]).toArray⟩)∧Below W.heap.size W w':=by
 have B0:=yaa ((Below.refl W.heap.size W).alloc (Nat.le_refl _) (.cells (cmL { cm0 with kind:=6,name:=n,column:=c,ty:=1 } cv vv fv ea wa).toArray 31))
 have zn:=yam n
 have zc:=yam c
 have hb:=fun W=>yaC (n:=6) (a:=11) (b:=13) (r:=false) (by decide) W
 simp only [← yaz]
 unfold cmL
 simp only [cm0]
 go_enter Tryz.func18,Tryz.ntmps18
 go_wp2_with (go_at_call 31;refine (hb _).mono ?_;rintro e w1 ⟨rfl,rfl⟩)
 go_quiet (fail)
 go_wp2
 go_ret
 exact ⟨rfl,by first|exact (B0.out.alloc B0.out.size _).drew|exact below_drewN (B0.out.alloc B0.out.size _) _⟩
theorem yrn (n c:List UInt8) (hn:n.length≤1000) (hc:c.length≤1000)  (cv vv fv ea wa:Value) (W:World) :
  Calls Tryz.prog 18 #[.agg (cmL { cm0 with kind:=6,name:=n,column:=c,ty:=2 } cv vv fv ea wa).toArray] W fun e w'=>e=.returned (.string ⟨(((((([97,108,116,101,114,32,116,97,98,108,101,32]++n)++[32])++[114,101,116,121,112,101,32])++c)++[32])++[116,101,120,116]).toArray⟩)∧Below W.heap.size W w':=by
 have B0:=yaa ((Below.refl W.heap.size W).alloc (Nat.le_refl _) (.cells (cmL { cm0 with kind:=6,name:=n,column:=c,ty:=2 } cv vv fv ea wa).toArray 31))
 have zn:=yam n
 have zc:=yam c
 have hb:=fun W=>yaC (n:=6) (a:=11) (b:=13) (r:=false) (by decide) W
 simp only [← yaz]
 unfold cmL
 simp only [cm0]
 go_enter Tryz.func18,Tryz.ntmps18
 go_wp2_with (go_at_call 31;refine (hb _).mono ?_;rintro e w1 ⟨rfl,rfl⟩)
 go_quiet (fail)
 go_wp2
 go_ret
 exact ⟨rfl,by first|exact (B0.out.alloc B0.out.size _).drew|exact below_drewN (B0.out.alloc B0.out.size _) _⟩
theorem yro (n c:List UInt8) (hn:n.length≤1000) (hc:c.length≤1000)  (cv vv fv ea wa:Value) (W:World) :
  Calls Tryz.prog 18 #[.agg (cmL { cm0 with kind:=6,name:=n,column:=c,ty:=3 } cv vv fv ea wa).toArray] W fun e w'=>e=.returned (.string ⟨(((((([97,108,116,101,114,32,116,97,98,108,101,32]++n)++[32])++[114,101,116,121,112,101,32])++c)++[32])++[98,111,111,108]).toArray⟩)∧Below W.heap.size W w':=by
 have B0:=yaa ((Below.refl W.heap.size W).alloc (Nat.le_refl _) (.cells (cmL { cm0 with kind:=6,name:=n,column:=c,ty:=3 } cv vv fv ea wa).toArray 31))
 have zn:=yam n
 have zc:=yam c
 have hb:=fun W=>yaC (n:=6) (a:=11) (b:=13) (r:=false) (by decide) W
 simp only [← yaz]
 unfold cmL
 simp only [cm0]
 go_enter Tryz.func18,Tryz.ntmps18
 go_wp2_with (go_at_call 31;refine (hb _).mono ?_;rintro e w1 ⟨rfl,rfl⟩)
 go_quiet (fail)
 go_wp2
 go_ret
 exact ⟨rfl,by first|exact (B0.out.alloc B0.out.size _).drew|exact below_drewN (B0.out.alloc B0.out.size _) _⟩
def ysW:Array Value:=#[.string ⟨#[]⟩,.string ⟨#[105,110,116]⟩,.string ⟨#[116,101,120,116]⟩,.string ⟨#[98,111,111,108]⟩]
theorem yij {W:World} {b:Nat} (h:W.heap[b]?=some (.cells ysW 9)) (t:Nat) (ht:t≤3):W.cell? ⟨b,0+t,none⟩=some (.string ⟨(atL yaB (t:Int)).toArray⟩):=by
 rw [Lib.cell_of_heap h]
 have:t=0∨t=1∨t=2∨t=3:=by omega
 rcases this with rfl|rfl|rfl|rfl <;> rfl
theorem ymK (t:Nat) (ht:t≤3):(atL yaB (t:Int)).length≤4:=by
 have:t=0∨t=1∨t=2∨t=3:=by omega
 rcases this with rfl|rfl|rfl|rfl <;> decide
theorem yuA (args:Array Value) (W:World):(callFunc 48 args).run Tryz.prog W=.ok (.enter 48 args) W:=by go_simp
theorem yuJ (args:Array Value) (W:World):(callFunc 49 args).run Tryz.prog W=.ok (.enter 49 args) W:=by go_simp
noncomputable def c3R:Array Oper:=((Tryz.f18.body).bind (yas 17)).getD #[]
def c3D:List (Option Tmp):=[some 74,some 75,some 76,some 77,some 78,some 79,some 80,some 81,some 82,some 83,some 84,some 85,some 86,some 87,some 88,some 89,some 90,some 2]
def c3V (n c:List UInt8) (t:Nat) (v:Vl) (rb tb:Nat) (j:Nat):Value:=([.string ⟨(([97,108,116,101,114,32,116,97,98,108,101,32]++n)++[32]).toArray⟩,.string ⟨((([97,108,116,101,114,32,116,97,98,108,101,32]++n)++[32])++[97,100,100,32]).toArray⟩,.pointer (some ⟨rb,3,none⟩),.string ⟨c.toArray⟩,.string ⟨(((([97,108,116,101,114,32,116,97,98,108,101,32]++n)++[32])++[97,100,100,32])++c).toArray⟩,.string ⟨((((([97,108,116,101,114,32,116,97,98,108,101,32]++n)++[32])++[97,100,100,32])++c)++[32]).toArray⟩,.slice (some ⟨tb,0,none⟩) 4 4,.pointer (some ⟨rb,5,none⟩),.int .i64 (t:Int),.pointer (some ⟨tb,0+t,none⟩),.string ⟨(atL yaB (t:Int)).toArray⟩,.string ⟨(((((([97,108,116,101,114,32,116,97,98,108,101,32]++n)++[32])++[97,100,100,32])++c)++[32])++(atL yaB (t:Int))).toArray⟩,.string ⟨((((((([97,108,116,101,114,32,116,97,98,108,101,32]++n)++[32])++[97,100,100,32])++c)++[32])++(atL yaB (t:Int)))++[32,100,101,102,97,117,108,116,32]).toArray⟩,.pointer (some ⟨rb,6,none⟩),.agg #[.int .i64 v.k,.int .i64 v.n,.string ⟨v.s.toArray⟩],.string ⟨(yaI v).toArray⟩,.string ⟨(((((((([97,108,116,101,114,32,116,97,98,108,101,32]++n)++[32])++[97,100,100,32])++c)++[32])++(atL yaB (t:Int)))++[32,100,101,102,97,117,108,116,32])++(yaI v)).toArray⟩,.string ⟨(((((((([97,108,116,101,114,32,116,97,98,108,101,32]++n)++[32])++[97,100,100,32])++c)++[32])++(atL yaB (t:Int)))++[32,100,101,102,97,117,108,116,32])++(yaI v)).toArray⟩]:List Value).getD j undef
theorem ytb (n c:List UInt8) (t:Nat) (v:Vl) (rb tb:Nat) {S:World→Prop} {a0:Act} {Q:Exit→Act→World→Prop} {w:World} (h1:a0.tmps[1]?=some (.pointer (some ⟨rb,0,none⟩))) (ha:a0.tmps.size=239) (h3:a0.tmps[3]?=some (.slice (some ⟨tb,0,none⟩) 4 4)) (h5:a0.tmps[5]?=some (.string ⟨(([97,108,116,101,114,32,116,97,98,108,101,32]++n)++[32]).toArray⟩)) (hn:n.length≤1000) (hc:c.length≤1000) (ht:t≤3) (hv:(yaI v).length≤3000) (q3:∀ W,S W→W.cell? ⟨rb,3,none⟩=some (.string ⟨c.toArray⟩)) (q5:∀ W,S W→W.cell? ⟨rb,5,none⟩=some (.int .i64 (t:Int))) (q6:∀ W,S W→W.cell? ⟨rb,6,none⟩=some (.int .i64 v.k)) (q7:∀ W,S W→W.cell? ⟨rb,6+1,none⟩=some (.int .i64 v.n)) (q8:∀ W,S W→W.cell? ⟨rb,6+2,none⟩=some (.string ⟨v.s.toArray⟩)) (qt:∀ W,S W→W.heap[tb]?=some (.cells ysW 9)) (qc:∀ W,S W→Calls Tryz.prog 49 #[.agg #[.int .i64 v.k,.int .i64 v.n,.string ⟨v.s.toArray⟩]] W fun e w'=>e=.returned (.string ⟨(yaI v).toArray⟩)∧S w') (hS:S w.drew)
  (hq:∀ w',S w'→Q .normal { tmps:=(ydW a0.tmps.toList (c3D.zip ((List.range 18).map (c3V n c t v rb tb)))).toArray,defers:=a0.defers } w'):(Code.region 17 c3R true).wp Tryz.prog Q a0 w:=by
 have hz:c3R.size=18:=by kernel_rfl
 have hT:=ymK t ht
 refine yd9 (m:=239) (V:=c3V n c t v rb tb) (by kernel_rfl) hz (by kernel_rfl) (by kernel_rfl) (by unfold c3D;decide) ha ?_ hS hq
 refine us ?_ (ya1 hz (by decide) (by kernel_rfl) fun _ _ s _=>yaA (x:=.tmp 90) (by kernel_rfl) (s.u 16 90 (by kernel_rfl)))
 refine us ?_ (ya1 hz (by decide) (by kernel_rfl) fun _ W s _=>yaq (u:=9) (x:=.tmp 86) (y:=.tmp 89) (by kernel_rfl) (s.u 12 86 (by kernel_rfl)) (s.u 15 89 (by kernel_rfl)) (yd8 W _ _ _ _ (by simp;omega)))
 refine us ?_ (yol hz (by decide) (by kernel_rfl) (fun _ _ s=>yaP (ts:=#[24]) (x:=.tmp 88) (f:=49) yuJ (by kernel_rfl) rfl (s.u 14 88 (by kernel_rfl))) qc)
 refine us ?_ (ya1 hz (by decide) (by kernel_rfl) fun _ W s hS=>yaf (x:=.tmp 87) (t:=24) (by kernel_rfl) (s.u 13 87 (by kernel_rfl)) (yoa W _ _ _ _ _ (q6 W hS) (q7 W hS) (q8 W hS)))
 refine us ?_ (ya1 hz (by decide) (by kernel_rfl) fun _ W s _=>yad (x:=.tmp 1) (t:=31) (f:=6) (by kernel_rfl) (s.b 1 (by kernel_rfl) h1) (fa6 W _))
 refine us ?_ (ya1 hz (by decide) (by kernel_rfl) fun _ W s _=>yaq (u:=9) (x:=.tmp 85) (y:=.const (.string ⟨#[32,100,101,102,97,117,108,116,32]⟩)) (by kernel_rfl) (s.u 11 85 (by kernel_rfl)) rfl (yd8 W _ _ _ [32,100,101,102,97,117,108,116,32] (by simp;omega)))
 refine us ?_ (ya1 hz (by decide) (by kernel_rfl) fun _ W s _=>yaq (u:=9) (x:=.tmp 79) (y:=.tmp 84) (by kernel_rfl) (s.u 5 79 (by kernel_rfl)) (s.u 10 84 (by kernel_rfl)) (yd8 W _ _ _ _ (by simp;omega)))
 refine us ?_ (ya1 hz (by decide) (by kernel_rfl) fun _ W s hS=>yaf (x:=.tmp 83) (t:=9) (by kernel_rfl) (s.u 9 83 (by kernel_rfl)) (ld9 W _ _ _ (yij (qt W hS) t ht)))
 refine us ?_ (ya1 hz (by decide) (by kernel_rfl) fun _ W s _=>ycm (x:=.tmp 80) (y:=.tmp 82) (t:=26) (by kernel_rfl) (s.u 6 80 (by kernel_rfl)) (s.u 8 82 (by kernel_rfl)) (ytC W tb 0 4 4 t (by omega)))
 refine us ?_ (ya1 hz (by decide) (by kernel_rfl) fun _ W s hS=>yaf (x:=.tmp 81) (t:=3) (by kernel_rfl) (s.u 7 81 (by kernel_rfl)) (ld3 W _ _ _ (q5 W hS)))
 refine us ?_ (ya1 hz (by decide) (by kernel_rfl) fun _ W s _=>yad (x:=.tmp 1) (t:=31) (f:=5) (by kernel_rfl) (s.b 1 (by kernel_rfl) h1) (fa5 W _))
 refine us ?_ (ya1 hz (by decide) (by kernel_rfl) fun _ _ s _=>yac (x:=.tmp 3) (by kernel_rfl) (s.b 3 (by kernel_rfl) h3))
 refine us ?_ (ya1 hz (by decide) (by kernel_rfl) fun _ W s _=>yaq (u:=9) (x:=.tmp 78) (y:=.const (.string ⟨#[32]⟩)) (by kernel_rfl) (s.u 4 78 (by kernel_rfl)) rfl (yd8 W _ _ _ [32] (by simp;omega)))
 refine us ?_ (ya1 hz (by decide) (by kernel_rfl) fun _ W s _=>yaq (u:=9) (x:=.tmp 75) (y:=.tmp 77) (by kernel_rfl) (s.u 1 75 (by kernel_rfl)) (s.u 3 77 (by kernel_rfl)) (yd8 W _ _ _ _ (by simp;omega)))
 refine us ?_ (ya1 hz (by decide) (by kernel_rfl) fun _ W s hS=>yaf (x:=.tmp 76) (t:=9) (by kernel_rfl) (s.u 2 76 (by kernel_rfl)) (ld9 W _ _ _ (q3 W hS)))
 refine us ?_ (ya1 hz (by decide) (by kernel_rfl) fun _ W s _=>yad (x:=.tmp 1) (t:=31) (f:=3) (by kernel_rfl) (s.b 1 (by kernel_rfl) h1) (fa3 W _))
 refine us ?_ (ya1 hz (by decide) (by kernel_rfl) fun _ W s _=>yaq (u:=9) (x:=.tmp 74) (y:=.const (.string ⟨#[97,100,100,32]⟩)) (by kernel_rfl) (s.u 0 74 (by kernel_rfl)) rfl (yd8 W _ _ _ [97,100,100,32] (by simp;omega)))
 refine us ?_ (ya1 hz (by decide) (by kernel_rfl) fun _ _ s _=>yac (x:=.tmp 5) (by kernel_rfl) (s.b 5 (by kernel_rfl) h5))
 exact fun j hj=>absurd hj (Nat.not_lt_zero j)
noncomputable def c12R:Array Oper:=((Tryz.f18.body).bind (yas 40)).getD #[]
def c12D:List (Option Tmp):=[some 184,some 185,some 186,some 187,some 188,some 189,some 190,some 191,some 192,some 193,some 194,some 195,some 196,some 197,some 2]
def yut (n c wt yt:List UInt8) (u:Value) (rb:Nat) (j:Nat):Value:=([.pointer (some ⟨rb,1,none⟩),.string ⟨n.toArray⟩,.string ⟨([117,112,100,97,116,101,32]++n).toArray⟩,.string ⟨(([117,112,100,97,116,101,32]++n)++[32,115,101,116,32]).toArray⟩,.pointer (some ⟨rb,3,none⟩),.string ⟨c.toArray⟩,.string ⟨((([117,112,100,97,116,101,32]++n)++[32,115,101,116,32])++c).toArray⟩,.string ⟨(((([117,112,100,97,116,101,32]++n)++[32,115,101,116,32])++c)++[32,61,32]).toArray⟩,.pointer (some ⟨rb,11,none⟩),u,.string ⟨yt.toArray⟩,.string ⟨((((([117,112,100,97,116,101,32]++n)++[32,115,101,116,32])++c)++[32,61,32])++yt).toArray⟩,.string ⟨wt.toArray⟩,.string ⟨(((((([117,112,100,97,116,101,32]++n)++[32,115,101,116,32])++c)++[32,61,32])++yt)++wt).toArray⟩,.string ⟨(((((([117,112,100,97,116,101,32]++n)++[32,115,101,116,32])++c)++[32,61,32])++yt)++wt).toArray⟩]:List Value).getD j undef
theorem yo3 (n c wt yt:List UInt8) (u:Value) (rb:Nat) {S:World→Prop} {a0:Act} {Q:Exit→Act→World→Prop} {w:World} (h1:a0.tmps[1]?=some (.pointer (some ⟨rb,0,none⟩))) (ha:a0.tmps.size=239) (h4:a0.tmps[4]?=some (.string ⟨wt.toArray⟩)) (hn:n.length≤1000) (hc:c.length≤1000) (hw:wt.length≤1000100) (hy:yt.length≤1000000) (q1:∀ W,S W→W.cell? ⟨rb,1,none⟩=some (.string ⟨n.toArray⟩)) (q3:∀ W,S W→W.cell? ⟨rb,3,none⟩=some (.string ⟨c.toArray⟩)) (ql:∀ W,S W→(Instr.loadAt 29 (.pointer (some ⟨rb,11,none⟩))).run Tryz.prog W=.ok u W) (qc:∀ W,S W→Calls Tryz.prog 47 #[u] W fun e w'=>e=.returned (.string ⟨yt.toArray⟩)∧S w') (hS:S w.drew)
  (hq:∀ w',S w'→Q .normal { tmps:=(ydW a0.tmps.toList (c12D.zip ((List.range 15).map (yut n c wt yt u rb)))).toArray,defers:=a0.defers } w'):(Code.region 40 c12R true).wp Tryz.prog Q a0 w:=by
 have hz:c12R.size=15:=by kernel_rfl
 refine yd9 (m:=239) (V:=yut n c wt yt u rb) (by kernel_rfl) hz (by kernel_rfl) (by kernel_rfl) (by unfold c12D;decide) ha ?_ hS hq
 refine us ?_ (ya1 hz (by decide) (by kernel_rfl) fun _ _ s _=>yaA (x:=.tmp 197) (by kernel_rfl) (s.u 13 197 (by kernel_rfl)))
 refine us ?_ (ya1 hz (by decide) (by kernel_rfl) fun _ W s _=>yaq (u:=9) (x:=.tmp 195) (y:=.tmp 196) (by kernel_rfl) (s.u 11 195 (by kernel_rfl)) (s.u 12 196 (by kernel_rfl)) (yd8 W _ _ _ _ (by simp;omega)))
 refine us ?_ (ya1 hz (by decide) (by kernel_rfl) fun _ _ s _=>yac (x:=.tmp 4) (by kernel_rfl) (s.b 4 (by kernel_rfl) h4))
 refine us ?_ (ya1 hz (by decide) (by kernel_rfl) fun _ W s _=>yaq (u:=9) (x:=.tmp 191) (y:=.tmp 194) (by kernel_rfl) (s.u 7 191 (by kernel_rfl)) (s.u 10 194 (by kernel_rfl)) (yd8 W _ _ _ _ (by simp;omega)))
 refine us ?_ (yol hz (by decide) (by kernel_rfl) (fun _ _ s=>yaP (ts:=#[29]) (x:=.tmp 193) (f:=47) ytg (by kernel_rfl) rfl (s.u 9 193 (by kernel_rfl))) qc)
 refine us ?_ (ya1 hz (by decide) (by kernel_rfl) fun _ W s hS=>yaf (x:=.tmp 192) (t:=29) (by kernel_rfl) (s.u 8 192 (by kernel_rfl)) (ql W hS))
 refine us ?_ (ya1 hz (by decide) (by kernel_rfl) fun _ W s _=>yad (x:=.tmp 1) (t:=31) (f:=9) (by kernel_rfl) (s.b 1 (by kernel_rfl) h1) (fa9 W _))
 refine us ?_ (ya1 hz (by decide) (by kernel_rfl) fun _ W s _=>yaq (u:=9) (x:=.tmp 190) (y:=.const (.string ⟨#[32,61,32]⟩)) (by kernel_rfl) (s.u 6 190 (by kernel_rfl)) rfl (yd8 W _ _ _ [32,61,32] (by simp;omega)))
 refine us ?_ (ya1 hz (by decide) (by kernel_rfl) fun _ W s _=>yaq (u:=9) (x:=.tmp 187) (y:=.tmp 189) (by kernel_rfl) (s.u 3 187 (by kernel_rfl)) (s.u 5 189 (by kernel_rfl)) (yd8 W _ _ _ _ (by simp;omega)))
 refine us ?_ (ya1 hz (by decide) (by kernel_rfl) fun _ W s hS=>yaf (x:=.tmp 188) (t:=9) (by kernel_rfl) (s.u 4 188 (by kernel_rfl)) (ld9 W _ _ _ (q3 W hS)))
 refine us ?_ (ya1 hz (by decide) (by kernel_rfl) fun _ W s _=>yad (x:=.tmp 1) (t:=31) (f:=3) (by kernel_rfl) (s.b 1 (by kernel_rfl) h1) (fa3 W _))
 refine us ?_ (ya1 hz (by decide) (by kernel_rfl) fun _ W s _=>yaq (u:=9) (x:=.tmp 186) (y:=.const (.string ⟨#[32,115,101,116,32]⟩)) (by kernel_rfl) (s.u 2 186 (by kernel_rfl)) rfl (yd8 W _ _ _ [32,115,101,116,32] (by simp;omega)))
 refine us ?_ (ya1 hz (by decide) (by kernel_rfl) fun _ W s _=>yaq (u:=9) (x:=.const (.string ⟨#[117,112,100,97,116,101,32]⟩)) (y:=.tmp 185) (by kernel_rfl) rfl (s.u 1 185 (by kernel_rfl)) (yd8 W _ _ [117,112,100,97,116,101,32] _ (by simp;omega)))
 refine us ?_ (ya1 hz (by decide) (by kernel_rfl) fun _ W s hS=>yaf (x:=.tmp 184) (t:=9) (by kernel_rfl) (s.u 0 184 (by kernel_rfl)) (ld9 W _ _ _ (q1 W hS)))
 refine us ?_ (ya1 hz (by decide) (by kernel_rfl) fun _ W s _=>yad (x:=.tmp 1) (t:=31) (f:=1) (by kernel_rfl) (s.b 1 (by kernel_rfl) h1) (fa1 W _))
 exact fun j hj=>absurd hj (Nat.not_lt_zero j)
noncomputable def c1R:Array Oper:=((Tryz.f18.body).bind (yas 13)).getD #[]
def c1D:List (Option Tmp):=[some 59,some 60,some 61,some 62,some 63,some 64,some 65,some 66,some 2]
def c1V (n lt:List UInt8) (u:Value) (rb:Nat) (j:Nat):Value:=([.pointer (some ⟨rb,1,none⟩),.string ⟨n.toArray⟩,.string ⟨([99,114,101,97,116,101,32,116,97,98,108,101,32]++n).toArray⟩,.string ⟨(([99,114,101,97,116,101,32,116,97,98,108,101,32]++n)++[32,40]).toArray⟩,u,.string ⟨lt.toArray⟩,.string ⟨((([99,114,101,97,116,101,32,116,97,98,108,101,32]++n)++[32,40])++lt).toArray⟩,.string ⟨(((([99,114,101,97,116,101,32,116,97,98,108,101,32]++n)++[32,40])++lt)++[41]).toArray⟩,.string ⟨(((([99,114,101,97,116,101,32,116,97,98,108,101,32]++n)++[32,40])++lt)++[41]).toArray⟩]:List Value).getD j undef
theorem yta (n lt:List UInt8) (u:Value) (rb:Nat) {S:World→Prop} {a0:Act} {Q:Exit→Act→World→Prop} {w:World} (h1:a0.tmps[1]?=some (.pointer (some ⟨rb,0,none⟩))) (ha:a0.tmps.size=239) (h6:a0.tmps[6]?=some u) (hn:n.length≤1000) (hl:lt.length≤4000000) (q1:∀ W,S W→W.cell? ⟨rb,1,none⟩=some (.string ⟨n.toArray⟩)) (qc:∀ W,S W→Calls Tryz.prog 48 #[u] W fun e w'=>e=.returned (.string ⟨lt.toArray⟩)∧S w') (hS:S w.drew)
  (hq:∀ w',S w'→Q .normal { tmps:=(ydW a0.tmps.toList (c1D.zip ((List.range 9).map (c1V n lt u rb)))).toArray,defers:=a0.defers } w'):(Code.region 13 c1R true).wp Tryz.prog Q a0 w:=by
 have hz:c1R.size=9:=by kernel_rfl
 refine yd9 (m:=239) (V:=c1V n lt u rb) (by kernel_rfl) hz (by kernel_rfl) (by kernel_rfl) (by unfold c1D;decide) ha ?_ hS hq
 refine us ?_ (ya1 hz (by decide) (by kernel_rfl) fun _ _ s _=>yaA (x:=.tmp 66) (by kernel_rfl) (s.u 7 66 (by kernel_rfl)))
 refine us ?_ (ya1 hz (by decide) (by kernel_rfl) fun _ W s _=>yaq (u:=9) (x:=.tmp 65) (y:=.const (.string ⟨#[41]⟩)) (by kernel_rfl) (s.u 6 65 (by kernel_rfl)) rfl (yd8 W _ _ _ [41] (by simp;omega)))
 refine us ?_ (ya1 hz (by decide) (by kernel_rfl) fun _ W s _=>yaq (u:=9) (x:=.tmp 62) (y:=.tmp 64) (by kernel_rfl) (s.u 3 62 (by kernel_rfl)) (s.u 5 64 (by kernel_rfl)) (yd8 W _ _ _ _ (by simp;omega)))
 refine us ?_ (yol hz (by decide) (by kernel_rfl) (fun _ _ s=>yaP (ts:=#[26]) (x:=.tmp 63) (f:=48) yuA (by kernel_rfl) rfl (s.u 4 63 (by kernel_rfl))) qc)
 refine us ?_ (ya1 hz (by decide) (by kernel_rfl) fun _ _ s _=>yac (x:=.tmp 6) (by kernel_rfl) (s.b 6 (by kernel_rfl) h6))
 refine us ?_ (ya1 hz (by decide) (by kernel_rfl) fun _ W s _=>yaq (u:=9) (x:=.tmp 61) (y:=.const (.string ⟨#[32,40]⟩)) (by kernel_rfl) (s.u 2 61 (by kernel_rfl)) rfl (yd8 W _ _ _ [32,40] (by simp;omega)))
 refine us ?_ (ya1 hz (by decide) (by kernel_rfl) fun _ W s _=>yaq (u:=9) (x:=.const (.string ⟨#[99,114,101,97,116,101,32,116,97,98,108,101,32]⟩)) (y:=.tmp 60) (by kernel_rfl) rfl (s.u 1 60 (by kernel_rfl)) (yd8 W _ _ [99,114,101,97,116,101,32,116,97,98,108,101,32] _ (by simp;omega)))
 refine us ?_ (ya1 hz (by decide) (by kernel_rfl) fun _ W s hS=>yaf (x:=.tmp 59) (t:=9) (by kernel_rfl) (s.u 0 59 (by kernel_rfl)) (ld9 W _ _ _ (q1 W hS)))
 refine us ?_ (ya1 hz (by decide) (by kernel_rfl) fun _ W s _=>yad (x:=.tmp 1) (t:=31) (f:=1) (by kernel_rfl) (s.b 1 (by kernel_rfl) h1) (fa1 W _))
 exact fun j hj=>absurd hj (Nat.not_lt_zero j)
noncomputable def c10R:Array Oper:=((Tryz.f18.body).bind (yas 36)).getD #[]
def c10D:List (Option Tmp):=[some 167,some 168,some 169,some 170,some 171,some 172,some 173,some 174,some 2]
def yus (n lt:List UInt8) (u:Value) (rb:Nat) (j:Nat):Value:=([.pointer (some ⟨rb,1,none⟩),.string ⟨n.toArray⟩,.string ⟨([105,110,115,101,114,116,32,105,110,116,111,32]++n).toArray⟩,.string ⟨(([105,110,115,101,114,116,32,105,110,116,111,32]++n)++[32,118,97,108,117,101,115,32,40]).toArray⟩,u,.string ⟨lt.toArray⟩,.string ⟨((([105,110,115,101,114,116,32,105,110,116,111,32]++n)++[32,118,97,108,117,101,115,32,40])++lt).toArray⟩,.string ⟨(((([105,110,115,101,114,116,32,105,110,116,111,32]++n)++[32,118,97,108,117,101,115,32,40])++lt)++[41]).toArray⟩,.string ⟨(((([105,110,115,101,114,116,32,105,110,116,111,32]++n)++[32,118,97,108,117,101,115,32,40])++lt)++[41]).toArray⟩]:List Value).getD j undef
theorem yrf (n lt:List UInt8) (u:Value) (rb:Nat) {S:World→Prop} {a0:Act} {Q:Exit→Act→World→Prop} {w:World} (h1:a0.tmps[1]?=some (.pointer (some ⟨rb,0,none⟩))) (ha:a0.tmps.size=239) (h6:a0.tmps[8]?=some u) (hn:n.length≤1000) (hl:lt.length≤4000000) (q1:∀ W,S W→W.cell? ⟨rb,1,none⟩=some (.string ⟨n.toArray⟩)) (qc:∀ W,S W→Calls Tryz.prog 48 #[u] W fun e w'=>e=.returned (.string ⟨lt.toArray⟩)∧S w') (hS:S w.drew)
  (hq:∀ w',S w'→Q .normal { tmps:=(ydW a0.tmps.toList (c10D.zip ((List.range 9).map (yus n lt u rb)))).toArray,defers:=a0.defers } w'):(Code.region 36 c10R true).wp Tryz.prog Q a0 w:=by
 have hz:c10R.size=9:=by kernel_rfl
 refine yd9 (m:=239) (V:=yus n lt u rb) (by kernel_rfl) hz (by kernel_rfl) (by kernel_rfl) (by unfold c10D;decide) ha ?_ hS hq
 refine us ?_ (ya1 hz (by decide) (by kernel_rfl) fun _ _ s _=>yaA (x:=.tmp 174) (by kernel_rfl) (s.u 7 174 (by kernel_rfl)))
 refine us ?_ (ya1 hz (by decide) (by kernel_rfl) fun _ W s _=>yaq (u:=9) (x:=.tmp 173) (y:=.const (.string ⟨#[41]⟩)) (by kernel_rfl) (s.u 6 173 (by kernel_rfl)) rfl (yd8 W _ _ _ [41] (by simp;omega)))
 refine us ?_ (ya1 hz (by decide) (by kernel_rfl) fun _ W s _=>yaq (u:=9) (x:=.tmp 170) (y:=.tmp 172) (by kernel_rfl) (s.u 3 170 (by kernel_rfl)) (s.u 5 172 (by kernel_rfl)) (yd8 W _ _ _ _ (by simp;omega)))
 refine us ?_ (yol hz (by decide) (by kernel_rfl) (fun _ _ s=>yaP (ts:=#[26]) (x:=.tmp 171) (f:=48) yuA (by kernel_rfl) rfl (s.u 4 171 (by kernel_rfl))) qc)
 refine us ?_ (ya1 hz (by decide) (by kernel_rfl) fun _ _ s _=>yac (x:=.tmp 8) (by kernel_rfl) (s.b 8 (by kernel_rfl) h6))
 refine us ?_ (ya1 hz (by decide) (by kernel_rfl) fun _ W s _=>yaq (u:=9) (x:=.tmp 169) (y:=.const (.string ⟨#[32,118,97,108,117,101,115,32,40]⟩)) (by kernel_rfl) (s.u 2 169 (by kernel_rfl)) rfl (yd8 W _ _ _ [32,118,97,108,117,101,115,32,40] (by simp;omega)))
 refine us ?_ (ya1 hz (by decide) (by kernel_rfl) fun _ W s _=>yaq (u:=9) (x:=.const (.string ⟨#[105,110,115,101,114,116,32,105,110,116,111,32]⟩)) (y:=.tmp 168) (by kernel_rfl) rfl (s.u 1 168 (by kernel_rfl)) (yd8 W _ _ [105,110,115,101,114,116,32,105,110,116,111,32] _ (by simp;omega)))
 refine us ?_ (ya1 hz (by decide) (by kernel_rfl) fun _ W s hS=>yaf (x:=.tmp 167) (t:=9) (by kernel_rfl) (s.u 0 167 (by kernel_rfl)) (ld9 W _ _ _ (q1 W hS)))
 refine us ?_ (ya1 hz (by decide) (by kernel_rfl) fun _ W s _=>yad (x:=.tmp 1) (t:=31) (f:=1) (by kernel_rfl) (s.b 1 (by kernel_rfl) h1) (fa1 W _))
 exact fun j hj=>absurd hj (Nat.not_lt_zero j)
theorem sw {w v:List UInt8} {ws:List (List UInt8)} (h1:w≠[40]) (h2:v≠[41]) (h3:v≠[44]):yaj (w::v::ws)=w++32::yaj (v::ws):=by
 show w++(ygZ w v++(v++ygk v ws))=_
 rw [ygZ,if_pos ⟨h1,h2,h3⟩];rfl
structure Nn (n:List UInt8):Prop where
 o:n≠[40]
 s:n≠[41]
 c:n≠[44]
theorem Nn.wd {n:List UInt8} (h:Nn n):Wd [n]:=Wd.one h.s h.c h.o
theorem yeX {w:List UInt8} {ws:List (List UInt8)} (h1:w≠[41]) (h2:w≠[44]) (h3:ycj w ws≠[40]):Wd (w::ws):=⟨by simp,h1,h2,by rwa [ybo]⟩
theorem ybb {n:List UInt8} (h:yan n=true):Nn n:=by
 have:=ydz h
 refine ⟨?_, ?_, ?_⟩ <;> (rintro rfl;revert this;decide)
theorem yhM {t:Int} (h:1≤t∧t≤3):Nn (atL yaB t):=by
 have:t=1∨t=2∨t=3:=by omega
 rcases this with rfl|rfl|rfl <;> exact ⟨by decide,by decide,by decide⟩
theorem ylV (v:Vl):Nn (yaI v):=by
 have:=ymR v
 exact ⟨by simpa [ycj] using this.h3,by simpa using this.h1,by simpa using this.h2⟩
theorem yhL (m:Int):Nn (Lib.itoa m):=ylV ⟨1,m,[]⟩
def yhb (a:Bool) (x:Ex):List UInt8:=if a=true then [] else [32,119,104,101,114,101,32]++ycM x
theorem yeY {a:Bool} {x:Ex} (h:RightW a x) {c:Cm} (ha:c.all=a) (hx:c.wh=x) {ws:List (List UInt8)} (hw:Wd ws):Wd (ws++yap c)∧yaj (ws++yap c)=yaj ws++yhb a x:=by
 cases h with
 | none=>simp [yap,ha,yhb,hw]
 | some x hr hs =>
  have e:yap c=[w_where]++yat x:=by simp [yap,ha,hx]
  have w1:Wd [w_where]:=Wd.one (by decide) (by decide) (by decide)
  have w2:=w1.both (yck hr)
  rw [e]
  refine ⟨hw.both w2, ?_⟩
  rw [hw.app w2,w1.app (yck hr),ybi]
  rfl
theorem ytr (n:List UInt8) (hn:Nn n):ybY { cm0 with kind:=2,name:=n }=([100,114,111,112,32,116,97,98,108,101,32]++n):=by
 show yaj [w_drop,w_table,n]=_
 rw [sw (by decide) (by decide) (by decide),sw (by decide) hn.s hn.c,ybi]
 first|rfl|(simp only [List.append_assoc];rfl)|(simp only [List.append_assoc,List.cons_append];rfl)
theorem yts (n:List UInt8) (hn:Nn n) (c:List UInt8) (hc:Nn c) (t:Int) (ht:Nn (atL yaB t)) (v:Vl):ybY { cm0 with kind:=3,name:=n,column:=c,ty:=t,val:=v }=(((((((([97,108,116,101,114,32,116,97,98,108,101,32]++n)++[32])++[97,100,100,32])++c)++[32])++atL yaB t)++[32,100,101,102,97,117,108,116,32])++yaI v):=by
 show yaj [w_alter,w_table,n,w_add,c,atL yaB t,w_default,yaI v]=_
 rw [sw (by decide) (by decide) (by decide),sw (by decide) hn.s hn.c,sw hn.o (by decide) (by decide),sw (by decide) hc.s hc.c,sw hc.o ht.s ht.c,sw ht.o (by decide) (by decide),sw (by decide) (ylV v).s (ylV v).c,ybi]
 first|rfl|(simp only [List.append_assoc];rfl)|(simp only [List.append_assoc,List.cons_append];rfl)
theorem ytt (n:List UInt8) (hn:Nn n) (c:List UInt8) (hc:Nn c):ybY { cm0 with kind:=4,name:=n,column:=c }=(((([97,108,116,101,114,32,116,97,98,108,101,32]++n)++[32])++[100,114,111,112,32])++c):=by
 show yaj [w_alter,w_table,n,w_drop,c]=_
 rw [sw (by decide) (by decide) (by decide),sw (by decide) hn.s hn.c,sw hn.o (by decide) (by decide),sw (by decide) hc.s hc.c,ybi]
 first|rfl|(simp only [List.append_assoc];rfl)|(simp only [List.append_assoc,List.cons_append];rfl)
theorem ytu (n:List UInt8) (hn:Nn n) (c:List UInt8) (hc:Nn c) (o:List UInt8) (ho:Nn o):ybY { cm0 with kind:=5,name:=n,column:=c,other:=o }=(((((([97,108,116,101,114,32,116,97,98,108,101,32]++n)++[32])++[114,101,110,97,109,101,32])++c)++[32,116,111,32])++o):=by
 show yaj [w_alter,w_table,n,w_rename,c,w_to,o]=_
 rw [sw (by decide) (by decide) (by decide),sw (by decide) hn.s hn.c,sw hn.o (by decide) (by decide),sw (by decide) hc.s hc.c,sw hc.o (by decide) (by decide),sw (by decide) ho.s ho.c,ybi]
 first|rfl|(simp only [List.append_assoc];rfl)|(simp only [List.append_assoc,List.cons_append];rfl)
theorem ytv (n:List UInt8) (hn:Nn n) (c:List UInt8) (hc:Nn c) (t:Int) (ht:Nn (atL yaB t)):ybY { cm0 with kind:=6,name:=n,column:=c,ty:=t }=(((((([97,108,116,101,114,32,116,97,98,108,101,32]++n)++[32])++[114,101,116,121,112,101,32])++c)++[32])++atL yaB t):=by
 show yaj [w_alter,w_table,n,w_retype,c,atL yaB t]=_
 rw [sw (by decide) (by decide) (by decide),sw (by decide) hn.s hn.c,sw hn.o (by decide) (by decide),sw (by decide) hc.s hc.c,sw hc.o ht.s ht.c,ybi]
 first|rfl|(simp only [List.append_assoc];rfl)|(simp only [List.append_assoc,List.cons_append];rfl)
theorem ytw (n:List UInt8) (hn:Nn n) (o:List UInt8) (ho:Nn o):ybY { cm0 with kind:=7,name:=n,other:=o }=(((([97,108,116,101,114,32,116,97,98,108,101,32]++n)++[32])++[114,101,110,97,109,101,32,116,111,32])++o):=by
 show yaj [w_alter,w_table,n,w_rename,w_to,o]=_
 rw [sw (by decide) (by decide) (by decide),sw (by decide) hn.s hn.c,sw hn.o (by decide) (by decide),sw (by decide) (by decide) (by decide),sw (by decide) ho.s ho.c,ybi]
 first|rfl|(simp only [List.append_assoc];rfl)|(simp only [List.append_assoc,List.cons_append];rfl)
theorem yty (n:List UInt8) (hn:Nn n):ybY { cm0 with kind:=9,name:=n }=([100,114,111,112,32,105,110,100,101,120,32]++n):=by
 show yaj [w_drop,w_index,n]=_
 rw [sw (by decide) (by decide) (by decide),sw (by decide) hn.s hn.c,ybi]
 first|rfl|(simp only [List.append_assoc];rfl)|(simp only [List.append_assoc,List.cons_append];rfl)
theorem ytx (n:List UInt8) (hn:Nn n) (c:List UInt8) (hc:Nn c) (o:List UInt8) (ho:Nn o):ybY { cm0 with kind:=8,name:=n,other:=o,column:=c }=(((((([99,114,101,97,116,101,32,105,110,100,101,120,32]++n)++[32,111,110,32])++o)++[32,40])++c)++[41]):=by
 show yaj [w_create,w_index,n,w_on,o,[40],c,[41]]=_
 have e:yaj [[40],c,[41]]=40::(c++[41]):=(yeR hc.wd).trans (by rw [ybi])
 rw [sw (by decide) (by decide) (by decide),sw (by decide) hn.s hn.c,sw hn.o (by decide) (by decide),sw (by decide) ho.s ho.c,sw ho.o (by decide) (by decide),e]
 first|rfl|(simp only [List.append_assoc];rfl)|(simp only [List.append_assoc,List.cons_append];rfl)
theorem ytq (n:List UInt8) (hn:Nn n) (l:List Cl) (hl:l≠[]) (h:∀ x ∈ l,Nn x.name∧Nn (atL yaB x.ty)):ybY { cm0 with kind:=1,name:=n,cols:=l }=(((([99,114,101,97,116,101,32,116,97,98,108,101,32]++n)++[32,40])++yaR (l.map fun x=>(x.name++[32])++atL yaB x.ty))++[41]):=by
 show yaj (w_create::w_table::n::[40]::(yal yaV l++[[41]]))=_
 have hw:∀ x ∈ l,Wd (yaV x):=fun x hx=>(h x hx).1.wd.both (h x hx).2.wd
 have e1:=(ycy yaV l hw hl).1
 have e2:l.map (fun x=>yaj (yaV x))=l.map fun x=>(x.name++[32])++atL yaB x.ty:=List.map_congr_left fun x hx=>by
  show yaj [x.name,atL yaB x.ty]=_
  rw [sw (h x hx).1.o (h x hx).2.s (h x hx).2.c,ybi];simp
 rw [sw (by decide) (by decide) (by decide),sw (by decide) hn.s hn.c,sw hn.o (by decide) (by decide),yeR (ygh hw hl),e1,e2]
 first|rfl|(simp only [List.append_assoc];rfl)|(simp only [List.append_assoc,List.cons_append];rfl)
theorem yrp (n:List UInt8) (hn:Nn n) (l:List Vl) (hl:l≠[]):ybY { cm0 with kind:=10,name:=n,vals:=l }=(((([105,110,115,101,114,116,32,105,110,116,111,32]++n)++[32,118,97,108,117,101,115,32,40])++yaR (l.map yaI))++[41]):=by
 show yaj (w_insert::w_into::n::w_values::[40]::(yal (fun v=>[yaI v]) l++[[41]]))=_
 have hw:∀ x ∈ l,Wd ((fun v=>[yaI v]) x):=fun x _=>ymR x
 have e1:=(ycy (fun v=>[yaI v]) l hw hl).1
 have e2:l.map (fun x=>yaj [yaI x])=l.map yaI:=List.map_congr_left fun x _=>ybi _
 rw [sw (by decide) (by decide) (by decide),sw (by decide) hn.s hn.c,sw hn.o (by decide) (by decide),sw (by decide) (by decide) (by decide),yeR (ygh hw hl),e1]
 rw [e2]
 first|rfl|(simp only [List.append_assoc];rfl)|(simp only [List.append_assoc,List.cons_append];rfl)
theorem yrq (n:List UInt8) (hn:Nn n) (a:Bool) (x:Ex) (hw:RightW a x):ybY { cm0 with kind:=11,name:=n,all:=a,wh:=x }=(([100,101,108,101,116,101,32,102,114,111,109,32]++n)++yhb a x):=by
 have w1:Wd [w_delete,w_from,n]:=yeX (by decide) (by decide) hn.o
 refine (yeY hw (c:={ cm0 with kind:=11,name:=n,all:=a,wh:=x }) rfl rfl w1).2.trans ?_
 rw [sw (by decide) (by decide) (by decide),sw (by decide) hn.s hn.c,ybi]
 first|rfl|(simp only [List.append_assoc];rfl)|(simp only [List.append_assoc,List.cons_append];rfl)
theorem yrr (n:List UInt8) (hn:Nn n) (c:List UInt8) (hc:Nn c) (y:Ex) (hy:RightE y) (a:Bool) (x:Ex) (hw:RightW a x):ybY { cm0 with kind:=12,name:=n,column:=c,expr:=y,all:=a,wh:=x }=(((((([117,112,100,97,116,101,32]++n)++[32,115,101,116,32])++c)++[32,61,32])++ycM y)++yhb a x):=by
 have w1:Wd [w_update,n,w_set,c,[61]]:=yeX (by decide) (by decide) (show ([61]:List UInt8)≠[40] by decide)
 have w2:=w1.both (yck hy)
 show yaj ([w_update,n,w_set,c,[61]]++(yat y++yap { cm0 with kind:=12,name:=n,column:=c,expr:=y,all:=a,wh:=x }))=_
 rw [← List.append_assoc]
 refine (yeY hw (c:={ cm0 with kind:=12,name:=n,column:=c,expr:=y,all:=a,wh:=x }) rfl rfl w2).2.trans ?_
 rw [w1.app (yck hy),sw (by decide) hn.s hn.c,sw hn.o (by decide) (by decide),sw (by decide) hc.s hc.c,sw hc.o (by decide) (by decide),ybi]
 unfold ycM
 first|rfl|(simp only [List.append_assoc];rfl)|(simp only [List.append_assoc,List.cons_append];rfl)
def yeE (o:List UInt8):List UInt8:=if o=[] then [] else [32,111,114,100,101,114,32,98,121,32]++o
def yeC (m:Int):List UInt8:=if m < 0 then [] else [32,108,105,109,105,116,32]++Lib.itoa m
def ydh (l:List (List UInt8)):List UInt8:=if l=[] then [115,101,108,101,99,116,32,42] else [115,101,108,101,99,116,32]++yaR l
theorem yrs (n:List UInt8) (hn:Nn n) (l:List (List UInt8)) (hl:∀ x ∈ l,Nn x) (a:Bool) (x:Ex) (hw:RightW a x) (o:List UInt8) (ho:o=[]∨Nn o) (m:Int) (C:Cm) (hC:C={ cm0 with kind:=13,name:=n,fields:=l,all:=a,wh:=x,order:=o,limit:=m }) :
  ybY C=((ydh l++(([32,102,114,111,109,32]++n)++yhb a x))++yeE o)++yeC m:=by
 have wc:yaZ C=w_select::(ydi C++([w_from,n]++(yap C++(yeF C++yft C)))):=by subst hC;rfl
 have c1:C.fields=l:=by rw [hC]
 have c2:C.all=a:=by rw [hC]
 have c3:C.wh=x:=by rw [hC]
 have c4:C.order=o:=by rw [hC]
 have c5:C.limit=m:=by rw [hC]
 clear hC
 have wf:Wd (w_select::ydi C)∧yaj (w_select::ydi C)=ydh l:=by
  have w1:Wd [w_select]:=Wd.one (by decide) (by decide) (by decide)
  unfold ydi ydh
  rw [c1]
  by_cases h:l=[]
  ·subst h
   exact ⟨⟨by simp,by decide,by decide,by decide⟩,by decide⟩
  ·have hf:∀ x ∈ l,Wd ((fun s=>[s]) x):=fun x hx=>(hl x hx).wd
   have e1:=(ycy (fun s=>[s]) l hf h).1
   have e2:l.map (fun x=>yaj [x])=l:=(List.map_congr_left fun x _=>ybi x).trans (List.map_id' l)
   have w2:=ygh hf h
   rw [if_neg h,if_neg h]
   refine ⟨w1.both w2, ?_⟩
   have:=w1.app w2
   rw [List.singleton_append] at this
   rw [this,e1,e2,ybi]
   rfl
 have w2:Wd [w_from,n]:=yeX (by decide) (by decide) hn.o
 obtain ⟨w3,e3⟩:=yeY hw c2 c3 (wf.1.both w2)
 have e4:yaj [w_from,n]=w_from++32::n:=by rw [sw (by decide) hn.s hn.c,ybi]
 have ord:∀ ws,Wd ws→Wd (ws++yeF C)∧yaj (ws++yeF C)=yaj ws++yeE o:=by
  intro ws hws
  unfold yeF yeE
  rw [c4]
  by_cases h:o=[]
  ·rw [if_pos h,if_pos h,List.append_nil,List.append_nil];exact ⟨hws,rfl⟩
  ·have hh:Nn o:=by rcases ho with h1|h1;exact absurd h1 h;exact h1
   have w5:Wd [w_order,w_by,o]:=yeX (by decide) (by decide) hh.o
   rw [if_neg h,if_neg h]
   refine ⟨hws.both w5, ?_⟩
   rw [hws.app w5,sw (by decide) (by decide) (by decide),sw (by decide) hh.s hh.c,ybi]
   rfl
 have lim:∀ ws,Wd ws→yaj (ws++yft C)=yaj ws++yeC m:=by
  intro ws hws
  unfold yft yeC
  rw [c5]
  by_cases h:m < 0
  ·rw [if_pos h,if_pos h,List.append_nil,List.append_nil]
  ·have w5:Wd [w_limit,Lib.itoa m]:=yeX (by decide) (by decide) (yhL m).o
   rw [if_neg h,if_neg h,hws.app w5,sw (by decide) (yhL m).s (yhL m).c,ybi]
   rfl
 obtain ⟨w4,e5⟩:=ord _ w3
 have e6:=lim _ w4
 rw [e5,e3,wf.1.app w2,wf.2,e4] at e6
 show yaj (yaZ C)=_
 rw [wc,show w_select::(ydi C++([w_from,n]++(yap C++(yeF C++yft C))))=(((w_select::ydi C)++[w_from,n])++yap C++yeF C)++yft C by simp]
 refine e6.trans ?_
 simp only [List.append_assoc]
 rfl
theorem yrt:ybY { cm0 with kind:=14 }=[98,101,103,105,110]:=by decide
theorem yru:ybY { cm0 with kind:=15 }=[99,111,109,109,105,116]:=by decide
theorem yrv:ybY { cm0 with kind:=16 }=[114,111,108,108,98,97,99,107]:=by decide
structure Hc (W:World) (cs:List Value) (w':World):Prop where
 bel:Below W.heap.size W w'
 blk:w'.heap[W.heap.size]?=some (.cells cs.toArray 31)
 typ:w'.heap[W.heap.size+1]?=some (.cells ysW 9)
theorem ygy {n:Nat} {K:Act→World→Prop} {Q:Exit→Act→World→Prop} {a:Act} {w:World} (h:Q .ret a w):Exit.inBlock n (Exit.then K Q) .ret a w:=h
theorem Hc.below {W w1 w2:World} {cs:List Value} (h:Hc W cs w1) (k:Below w1.heap.size w1 w2):Hc W cs w2 :=
 ⟨h.bel.trans (k.mono h.bel.size),(k.block _ (ltS h.blk)).trans h.blk,(k.block _ (ltS h.typ)).trans h.typ⟩
theorem Hc.start (W:World) (cs:List Value):Hc W cs ((W.alloc (.cells cs.toArray 31)).alloc (.cells ysW 9)):=by
 have b:=(Below.refl W.heap.size W).alloc (Nat.le_refl _) (.cells cs.toArray 31)
 refine ⟨b.alloc b.size _,(Below.heap_alloc _ _ _ (by simp)).trans (heap_alloc_new _ _), ?_⟩
 have:=heap_alloc_new (W.alloc (.cells cs.toArray 31)) (.cells ysW 9)
 simpa using this
theorem Hc.cell {W w1:World} {cs:List Value} (h:Hc W cs w1) (o:Nat) {x:Value} (hx:cs[o]?=some x):w1.cell? ⟨W.heap.size,o,none⟩=some x:=by
 rw [Lib.cell_of_heap h.blk];simpa using hx
theorem yuT (n c:List UInt8) (t:Nat) (v:Vl) (ht:t≤3) (hvB:ybJ v=true) (hwv:(yaI v).length≤3000) (hn:n.length≤1000) (hc:c.length≤1000) (cv vv fv ea wa:Value) (W:World) :
  Calls Tryz.prog 18 #[.agg (cmL { cm0 with kind:=3,name:=n,column:=c,ty:=(t:Int),val:=v } cv vv fv ea wa).toArray] W fun e w'=>e=.returned (.string ⟨(((((((([97,108,116,101,114,32,116,97,98,108,101,32]++n)++[32])++[97,100,100,32])++c)++[32])++atL yaB (t:Int))++[32,100,101,102,97,117,108,116,32])++yaI v).toArray⟩)∧Below W.heap.size W w':=by
 have H0:=yaa (Hc.start W (cmL { cm0 with kind:=3,name:=n,column:=c,ty:=(t:Int),val:=v } cv vv fv ea wa))
 have zn:=yam n
 have zc:=yam c
 have hb:=fun W=>yaC (n:=3) (a:=11) (b:=13) (r:=false) (by decide) W
 have hv:=fun W=>yeW v hvB W
 unfold cmL
 simp only [cm0]
 go_enter Tryz.func18,Tryz.ntmps18
 go_wp2_with (go_at_call 31;refine (hb _).mono ?_;rintro e w1 ⟨rfl,rfl⟩)
 refine yaT c3R (by kernel_rfl) ?_
 refine ytb n c t v W.heap.size (W.heap.size+1) (S:=Hc W (cmL { cm0 with kind:=3,name:=n,column:=c,ty:=(t:Int),val:=v } cv vv fv ea wa)) rfl rfl rfl ?_ hn hc ht hwv (fun W h=>h.cell 3 rfl) (fun W h=>h.cell 5 rfl) (fun W h=>h.cell 6 rfl) (fun W h=>h.cell 7 rfl) (fun W h=>h.cell 8 rfl) (fun W h=>h.typ) (fun W h=>(hv W).mono fun e w' q=>⟨q.1,h.below q.2⟩) (H0.out.below (Below.refl _ _).drew) ?_
 ·rw [← yaz,← yaz];rfl
 intro w' hS
 refine ‹∀ (a:Act) (w:World),Code.wp _ _ _ a w→_› _ _ ?_
 refine wp_ret ?_
 refine ygy ?_
 exact ybv 17 rfl (by unfold c3D;decide) rfl rfl (by simp) ⟨rfl,hS.bel⟩
theorem ypF (n:List UInt8) (x:Ex) (hn:n.length≤1000) (cv vv fv ea wa:Value) (W:World) :
  Calls Tryz.prog 18 #[.agg (cmL { cm0 with kind:=11,name:=n,all:=true,wh:=x } cv vv fv ea wa).toArray] W fun e w'=>e=.returned (.string ⟨(([100,101,108,101,116,101,32,102,114,111,109,32]++n)++([]:List UInt8)).toArray⟩)∧Below W.heap.size W w':=by
 have H0:=yaa (Hc.start W (cmL { cm0 with kind:=11,name:=n,all:=true,wh:=x } cv vv fv ea wa))
 have zn:=yam n
 simp only [← yaz]
 unfold cmL
 simp only [cm0]
 go_enter Tryz.func18,Tryz.ntmps18
 go_wp2
 go_ret
 exact ⟨rfl,by first|exact H0.out.bel⟩
theorem ypE (n:List UInt8) (x:Ex) (xt:List UInt8) (hn:n.length≤1000) (cv vv fv ea wa:Value) (W:World)
  (hx:∀ W',Below W.heap.size W W'→Calls Tryz.prog 47 #[.agg #[.int .i64 x.k,.int .i64 x.v.k,.int .i64 x.v.n,.string ⟨x.v.s.toArray⟩,.string ⟨x.nm.toArray⟩,wa]] W' fun e w'=>e=.returned (.string ⟨xt.toArray⟩)∧Below W'.heap.size W' w') (hxt:xt.length≤1000000) :
  Calls Tryz.prog 18 #[.agg (cmL { cm0 with kind:=11,name:=n,all:=false,wh:=x } cv vv fv ea wa).toArray] W fun e w'=>e=.returned (.string ⟨(([100,101,108,101,116,101,32,102,114,111,109,32]++n)++([32,119,104,101,114,101,32]++xt)).toArray⟩)∧Below W.heap.size W w':=by
 have H0:=yaa (Hc.start W (cmL { cm0 with kind:=11,name:=n,all:=false,wh:=x } cv vv fv ea wa))
 have zn:=yam n
 have hb:=fun W=>yaC (n:=11) (a:=11) (b:=13) (r:=true) (by decide) W
 have zx:=yam xt
 simp only [← yaz]
 unfold cmL
 simp only [cm0]
 go_enter Tryz.func18,Tryz.ntmps18
 go_wp2_with (first|(go_at_call 31;refine (hb _).mono ?_;rintro e w1 ⟨rfl,rfl⟩)|(go_at_call 47;refine (hx _ (by exact H0.out.bel)).mono ?_;rintro e w2 ⟨rfl,b2⟩;have h2:=H0.out.below b2;have d0:w2.cell? ⟨W.heap.size,0,none⟩=some (.int .i64 11):=h2.cell 0 rfl;have d1:w2.cell? ⟨W.heap.size,1,none⟩=some (.string ⟨n.toArray⟩):=h2.cell 1 rfl))
 go_ret
 exact ⟨rfl,by first|exact h2.bel⟩
theorem ypH (n c:List UInt8) (y x:Ex) (yt:List UInt8) (hn:n.length≤1000) (hc:c.length≤1000) (cv vv fv ea wa:Value) (W:World)
  (hy:∀ W',Below W.heap.size W W'→Calls Tryz.prog 47 #[.agg #[.int .i64 y.k,.int .i64 y.v.k,.int .i64 y.v.n,.string ⟨y.v.s.toArray⟩,.string ⟨y.nm.toArray⟩,ea]] W' fun e w'=>e=.returned (.string ⟨yt.toArray⟩)∧Below W'.heap.size W' w') (hyt:yt.length≤1000000) :
  Calls Tryz.prog 18 #[.agg (cmL { cm0 with kind:=12,name:=n,column:=c,expr:=y,all:=true,wh:=x } cv vv fv ea wa).toArray] W fun e w'=>e=.returned (.string ⟨(((((([117,112,100,97,116,101,32]++n)++[32,115,101,116,32])++c)++[32,61,32])++yt)++([]:List UInt8)).toArray⟩)∧Below W.heap.size W w':=by
 have H0:=yaa (Hc.start W (cmL { cm0 with kind:=12,name:=n,column:=c,expr:=y,all:=true,wh:=x } cv vv fv ea wa))
 have zn:=yam n
 have zc:=yam c
 unfold cmL
 simp only [cm0]
 go_enter Tryz.func18,Tryz.ntmps18
 go_wp2
 refine yaT c12R (by kernel_rfl) ?_
 refine yo3 n c ([]:List UInt8) yt (.agg #[.int .i64 y.k,.int .i64 y.v.k,.int .i64 y.v.n,.string ⟨y.v.s.toArray⟩,.string ⟨y.nm.toArray⟩,ea]) W.heap.size (S:=Hc W (cmL { cm0 with kind:=12,name:=n,column:=c,expr:=y,all:=true,wh:=x } cv vv fv ea wa)) rfl rfl ?_ hn hc (by simp;try omega) hyt (fun W h=>h.cell 1 rfl) (fun W h=>h.cell 3 rfl) (fun W h=>ygD W _ 11 _ _ _ _ _ _ (h.cell 11 rfl) (h.cell 12 rfl) (h.cell 13 rfl) (h.cell 14 rfl) (h.cell 15 rfl) (h.cell 16 rfl)) (fun W' h=>(hy W' h.bel).mono fun e w' q=>⟨q.1,h.below q.2⟩) (H0.out.below (Below.refl _ _).drew) ?_
 ·first|rfl|(rw [← yaz];rfl)
 intro w' hS
 refine ‹∀ (a:Act) (w:World),Code.wp _ _ _ a w→_› _ _ ?_
 refine wp_ret ?_
 refine ygy ?_
 exact ybv 14 rfl (by unfold c12D;decide) rfl rfl (by simp) ⟨rfl,hS.bel⟩
theorem ypG (n c:List UInt8) (y x:Ex) (yt:List UInt8) (xt:List UInt8) (hn:n.length≤1000) (hc:c.length≤1000) (cv vv fv ea wa:Value) (W:World)
  (hy:∀ W',Below W.heap.size W W'→Calls Tryz.prog 47 #[.agg #[.int .i64 y.k,.int .i64 y.v.k,.int .i64 y.v.n,.string ⟨y.v.s.toArray⟩,.string ⟨y.nm.toArray⟩,ea]] W' fun e w'=>e=.returned (.string ⟨yt.toArray⟩)∧Below W'.heap.size W' w') (hyt:yt.length≤1000000)
  (hx:∀ W',Below W.heap.size W W'→Calls Tryz.prog 47 #[.agg #[.int .i64 x.k,.int .i64 x.v.k,.int .i64 x.v.n,.string ⟨x.v.s.toArray⟩,.string ⟨x.nm.toArray⟩,wa]] W' fun e w'=>e=.returned (.string ⟨xt.toArray⟩)∧Below W'.heap.size W' w') (hxt:xt.length≤1000000) :
  Calls Tryz.prog 18 #[.agg (cmL { cm0 with kind:=12,name:=n,column:=c,expr:=y,all:=false,wh:=x } cv vv fv ea wa).toArray] W fun e w'=>e=.returned (.string ⟨(((((([117,112,100,97,116,101,32]++n)++[32,115,101,116,32])++c)++[32,61,32])++yt)++([32,119,104,101,114,101,32]++xt)).toArray⟩)∧Below W.heap.size W w':=by
 have H0:=yaa (Hc.start W (cmL { cm0 with kind:=12,name:=n,column:=c,expr:=y,all:=false,wh:=x } cv vv fv ea wa))
 have zn:=yam n
 have zc:=yam c
 have hb:=fun W=>yaC (n:=12) (a:=11) (b:=13) (r:=true) (by decide) W
 have zx:=yam xt
 unfold cmL
 simp only [cm0]
 go_enter Tryz.func18,Tryz.ntmps18
 go_wp2_with (first|(go_at_call 31;refine (hb _).mono ?_;rintro e w1 ⟨rfl,rfl⟩)|(go_at_call 47;refine (hx _ (by exact H0.out.bel)).mono ?_;rintro e w2 ⟨rfl,b2⟩;have h2:=H0.out.below b2;have d0:w2.cell? ⟨W.heap.size,0,none⟩=some (.int .i64 12):=h2.cell 0 rfl;have d1:w2.cell? ⟨W.heap.size,1,none⟩=some (.string ⟨n.toArray⟩):=h2.cell 1 rfl))
 refine yaT c12R (by kernel_rfl) ?_
 refine yo3 n c ([32,119,104,101,114,101,32]++xt) yt (.agg #[.int .i64 y.k,.int .i64 y.v.k,.int .i64 y.v.n,.string ⟨y.v.s.toArray⟩,.string ⟨y.nm.toArray⟩,ea]) W.heap.size (S:=Hc W (cmL { cm0 with kind:=12,name:=n,column:=c,expr:=y,all:=false,wh:=x } cv vv fv ea wa)) rfl rfl ?_ hn hc (by simp;try omega) hyt (fun W h=>h.cell 1 rfl) (fun W h=>h.cell 3 rfl) (fun W h=>ygD W _ 11 _ _ _ _ _ _ (h.cell 11 rfl) (h.cell 12 rfl) (h.cell 13 rfl) (h.cell 14 rfl) (h.cell 15 rfl) (h.cell 16 rfl)) (fun W' h=>(hy W' h.bel).mono fun e w' q=>⟨q.1,h.below q.2⟩) (h2.below (Below.refl _ _).drew) ?_
 ·first|rfl|(rw [← yaz];rfl)
 intro w' hS
 refine ‹∀ (a:Act) (w:World),Code.wp _ _ _ a w→_› _ _ ?_
 refine wp_ret ?_
 refine ygy ?_
 exact ybv 14 rfl (by unfold c12D;decide) rfl rfl (by simp) ⟨rfl,hS.bel⟩
theorem ymc {a b:ByteArray} (h:a=b):Ending.returned (.string a)=.returned (.string b):=by rw [h]
theorem ypJ (n:List UInt8) (l:List (List UInt8)) (x:Ex) (o:List UInt8) (m:Int) (hn:n.length≤1000) (hl:(yaR l).length≤4000000) (ho:o.length≤1000) (hm:(Lib.itoa m).length≤1000) (cv vv ea wa:Value) (ao:Option Addr) (ca:Nat) (W:World)
  (hcm:¬ l=[]→∀ W',Below W.heap.size W W'→Calls Tryz.prog 48 #[.slice ao l.length ca] W' fun e w'=>e=.returned (.string ⟨(yaR l).toArray⟩)∧w'=W')
  (hdg:¬ m < 0→∀ W',Calls Tryz.prog 50 #[.int .i64 m] W' fun e w'=>e=.returned (.string ⟨(Lib.itoa m).toArray⟩)∧Below W'.heap.size W' w') :
  Calls Tryz.prog 18 #[.agg (cmL { cm0 with kind:=13,name:=n,fields:=l,all:=true,wh:=x,order:=o,limit:=m } cv vv (.slice ao l.length ca) ea wa).toArray] W fun e w'=>e=.returned (.string ⟨(((ydh l++(([32,102,114,111,109,32]++n)++([]:List UInt8)))++yeE o)++yeC m).toArray⟩)∧Below W.heap.size W w':=by
 have H0:=yaa (Hc.start W (cmL { cm0 with kind:=13,name:=n,fields:=l,all:=true,wh:=x,order:=o,limit:=m } cv vv (.slice ao l.length ca) ea wa))
 have zn:=yam n
 have zl:=yam (yaR l)
 have zo:=yam o
 have zm:=yam (Lib.itoa m)
 by_cases q1:l=[] <;> by_cases q2:o=[] <;> by_cases q3:m < 0
 all_goals first|subst q1|(have q1':(0:Int) < (l.length:Int):=by have:=List.length_pos_iff.2 q1;omega)
 all_goals first|subst q2|(have q2':o.isEmpty=false:=by simpa using q2)
 all_goals first|(have q3':¬ (0:Int)≤m:=by omega)|(have q3':(0:Int)≤m:=by omega)
 all_goals simp only [ydh,yeE,yeC, *,if_true,if_false,List.append_nil,← yaz]
 all_goals unfold cmL
 all_goals simp only [cm0,List.length_nil]
 all_goals go_enter Tryz.func18,Tryz.ntmps18
 all_goals go_wp2_with (first|(go_at_call 48;refine (hcm q1 _ (by exact H0.out.bel)).mono ?_;rintro e w3 ⟨rfl,rfl⟩)|(go_at_call 50;refine (hdg q3 _).mono ?_;rintro e w4 ⟨rfl,b4⟩;have h4:=Hc.below H0.out b4))
 all_goals go_ret
 all_goals refine ⟨?_,by first|exact h4.bel|exact H0.out.bel⟩
 all_goals first|rfl|(refine ymc ?_;apply ByteArray.ext;simp [ByteArray.data_append])
theorem ypI (n:List UInt8) (l:List (List UInt8)) (x:Ex) (o:List UInt8) (m:Int) (xt:List UInt8) (hn:n.length≤1000) (hl:(yaR l).length≤4000000) (ho:o.length≤1000) (hm:(Lib.itoa m).length≤1000) (cv vv ea wa:Value) (ao:Option Addr) (ca:Nat) (W:World)
  (hx:∀ W',Below W.heap.size W W'→Calls Tryz.prog 47 #[.agg #[.int .i64 x.k,.int .i64 x.v.k,.int .i64 x.v.n,.string ⟨x.v.s.toArray⟩,.string ⟨x.nm.toArray⟩,wa]] W' fun e w'=>e=.returned (.string ⟨xt.toArray⟩)∧Below W'.heap.size W' w') (hxt:xt.length≤1000000)
  (hcm:¬ l=[]→∀ W',Below W.heap.size W W'→Calls Tryz.prog 48 #[.slice ao l.length ca] W' fun e w'=>e=.returned (.string ⟨(yaR l).toArray⟩)∧w'=W')
  (hdg:¬ m < 0→∀ W',Calls Tryz.prog 50 #[.int .i64 m] W' fun e w'=>e=.returned (.string ⟨(Lib.itoa m).toArray⟩)∧Below W'.heap.size W' w') :
  Calls Tryz.prog 18 #[.agg (cmL { cm0 with kind:=13,name:=n,fields:=l,all:=false,wh:=x,order:=o,limit:=m } cv vv (.slice ao l.length ca) ea wa).toArray] W fun e w'=>e=.returned (.string ⟨(((ydh l++(([32,102,114,111,109,32]++n)++([32,119,104,101,114,101,32]++xt)))++yeE o)++yeC m).toArray⟩)∧Below W.heap.size W w':=by
 have H0:=yaa (Hc.start W (cmL { cm0 with kind:=13,name:=n,fields:=l,all:=false,wh:=x,order:=o,limit:=m } cv vv (.slice ao l.length ca) ea wa))
 have zn:=yam n
 have zl:=yam (yaR l)
 have zo:=yam o
 have zm:=yam (Lib.itoa m)
 have hb:=fun W=>yaC (n:=13) (a:=11) (b:=13) (r:=true) (by decide) W
 have zx:=yam xt
 have HC:=yaa (fun w2 (h2:Hc W (cmL { cm0 with kind:=13,name:=n,fields:=l,all:=false,wh:=x,order:=o,limit:=m } cv vv (.slice ao l.length ca) ea wa) w2)=>(⟨h2.cell 0 rfl,h2.cell 1 rfl,h2.cell 10 rfl,h2.cell 24 rfl,h2.cell 25 rfl⟩:w2.cell? ⟨W.heap.size,0,none⟩=some (.int .i64 13)∧w2.cell? ⟨W.heap.size,1,none⟩=some (.string ⟨n.toArray⟩)∧w2.cell? ⟨W.heap.size,10,none⟩=some (.slice ao l.length ca)∧w2.cell? ⟨W.heap.size,24,none⟩=some (.string ⟨o.toArray⟩)∧w2.cell? ⟨W.heap.size,25,none⟩=some (.int .i64 m)))
 by_cases q1:l=[] <;> by_cases q2:o=[] <;> by_cases q3:m < 0
 all_goals first|subst q1|(have q1':(0:Int) < (l.length:Int):=by have:=List.length_pos_iff.2 q1;omega)
 all_goals first|subst q2|(have q2':o.isEmpty=false:=by simpa using q2)
 all_goals first|(have q3':¬ (0:Int)≤m:=by omega)|(have q3':(0:Int)≤m:=by omega)
 all_goals simp only [ydh,yeE,yeC, *,if_true,if_false,List.append_nil,← yaz]
 all_goals unfold cmL
 all_goals simp only [cm0,List.length_nil]
 all_goals go_enter Tryz.func18,Tryz.ntmps18
 all_goals go_wp2_with (first|(go_at_call 31;refine (hb _).mono ?_;rintro e w1 ⟨rfl,rfl⟩)|(go_at_call 47;refine (hx _ (by exact H0.out.bel)).mono ?_;rintro e w2 ⟨rfl,b2⟩;have h2:=H0.out.below b2;obtain ⟨d0,d1,d10,d24,d25⟩:=HC.out _ h2)|(go_at_call 48;refine (hcm q1 _ (by exact h2.bel)).mono ?_;rintro e w3 ⟨rfl,rfl⟩)|(go_at_call 50;refine (hdg q3 _).mono ?_;rintro e w4 ⟨rfl,b4⟩;have h4:=Hc.below h2 b4))
 all_goals go_ret
 all_goals refine ⟨?_,by first|exact h4.bel|exact h2.bel⟩
 all_goals first|rfl|(refine ymc ?_;apply ByteArray.ext;simp [ByteArray.data_append])
theorem yeG {w w':World} {base:Nat} {e:TypeId} {size:Nat} {v:Value} {n:Nat} {xs:List Value} (h:w.ownsRow base e size v n xs) (k:Below w.heap.size w w'):w'.ownsRow base e size v n xs :=
 h.kept (row:=none) ⟨k.os,k.tape,k.output,k.size,fun b hb _=>k.block b hb⟩ (by cases hv:v.ownBlock <;> simp)
theorem Hc.over {W w1 w2:World} {cs:List Value} (h:Hc W cs w1) (k:Below (W.heap.size+2) w1 w2):Hc W cs w2 :=
 ⟨h.bel.trans (k.mono (by omega)),(k.block _ (by omega)).trans h.blk,(k.block _ (by omega)).trans h.typ⟩
theorem Hc.size {W w1:World} {cs:List Value} (h:Hc W cs w1):W.heap.size+2≤w1.heap.size:=(ltS h.typ)
theorem yiy {w:World} {B k:Nat} {v:Value} (ts:List (List UInt8)) (x:List UInt8) (hx:ts[k]?=some x) (h:w.ownsRow B 9 1 v (k+1) ((ts.take k).flatMap stC++[.string ⟨x.toArray⟩])):w.ownsRow B 9 1 v (k+1) ((ts.take (k+1)).flatMap stC):=by
 have e:(ts.take (k+1)).flatMap stC=(ts.take k).flatMap stC++[.string ⟨x.toArray⟩]:=by
  rw [List.take_add_one,hx,List.flatMap_append];simp [stC]
 rw [e];exact h
theorem yiz {w:World} {B:Nat} {e:TypeId} {size:Nat} {v:Value} {n:Nat} {xs:List Value} (h:w.ownsRow B e size v n xs) (hn:0 < n):∃ g cap,v=.slice (some ⟨g,0,none⟩) n cap:=by
 rcases h.2 with ⟨-,h0⟩|⟨g,cap,cur,hv,-⟩
 ·omega
 ·exact ⟨g,cap,hv⟩
theorem ygo {w:World} {B g k cap:Nat} {ts:List (List UInt8)} {P:World→Prop} (hx:∀ x ∈ ts,x.length≤3000) (h5:ts.length≤1000) (hk:k=ts.length) (h:w.ownsRow B 9 1 (.slice (some ⟨g,0,none⟩) k cap) k ((ts.take k).flatMap stC)) (hP:∀ {w'},Below w.heap.size w w'→P w') :
  Calls Tryz.prog 48 #[.slice (some ⟨g,0,none⟩) k cap] w fun e w'=>e=.returned (.string ⟨(yaR ts).toArray⟩)∧P w':=by
 subst hk
 rw [List.take_length] at h
 refine (yfg ts g 0 cap w (fun j x hj=>?_) h5 hx).mono ?_
 ·have hlt:=(List.getElem?_eq_some_iff.1 hj).1
  have e:=h.cellAt j (by omega)
  have g0:=ybj stC 1 (fun _=>rfl) ts j x hj 0 (by decide)
  rw [Nat.zero_add,e]
  simpa [stC] using g0
 ·rintro e w' ⟨rfl,rfl⟩
  exact ⟨rfl,hP (Below.refl _ _)⟩
theorem ytm (n:List UInt8) (vs:List Vl) (hvs:vs≠[]) (h5:vs.length≤5) (hv:∀ v ∈ vs,ybJ v=true) (hwl:∀ v ∈ vs,(yaI v).length≤3000) (hn:n.length≤1000) (g o ca:Nat) (cv fv ea wa:Value) (W:World) (lt:g < W.heap.size)
  (hrow:∀ j x,(vs.flatMap vlC)[j]?=some x→W.cell? ⟨g,o+j,none⟩=some x) :
  Calls Tryz.prog 18 #[.agg (cmL { cm0 with kind:=10,name:=n,vals:=vs } cv (.slice (some ⟨g,o,none⟩) vs.length ca) fv ea wa).toArray] W fun e w'=>e=.returned (.string ⟨(((([105,110,115,101,114,116,32,105,110,116,111,32]++n)++[32,118,97,108,117,101,115,32,40])++yaR (vs.map yaI))++[41]).toArray⟩)∧Below W.heap.size W w':=by
 obtain ⟨i0,hi,hz0,hz1,hz2⟩:=info_parts Tryz.info_str
 obtain ⟨cs,hcs⟩:∃ cs,Hid (cs=cmL { cm0 with kind:=10,name:=n,vals:=vs } cv (.slice (some ⟨g,o,none⟩) vs.length ca) fv ea wa):=⟨_,rfl⟩
 have H0:=yaa (Hc.start W cs)
 have zn:=yam n
 have hb:=fun W=>yaC (n:=10) (a:=11) (b:=13) (r:=false) (by decide) W
 have HC:=yaa (fun w2 (h2:Hc W cs w2)=>(h2.cell 9 (by rw [hcs.out];rfl):w2.cell? ⟨W.heap.size,9,none⟩=some (.slice (some ⟨g,o,none⟩) vs.length ca)))
 have HN:=yaa (fun w2 (h2:Hc W cs w2)=>(h2.cell 1 (by rw [hcs.out];rfl):w2.cell? ⟨W.heap.size,1,none⟩=some (.string ⟨n.toArray⟩)))
 have HR:=yaa (fun w2 (h2:Hc W cs w2) q=>(h2.bel.cell (p:=⟨g,q,none⟩) lt:w2.cell? ⟨g,q,none⟩=W.cell? ⟨g,q,none⟩))
 have HROW:=yaa hrow
 have hW:∀ x ∈ vs.map yaI,x.length≤3000:=fun x hx=>by
  obtain ⟨v,hv1,rfl⟩:=List.mem_map.1 hx
  exact hwl v hv1
 have HW:=yaa hW
 have HF:Hid ((vs.map yaI).length≤1000):=by show _≤_;rw [List.length_map];omega
 have HL:Hid ((yaR (vs.map yaI)).length≤4000000):=by
  have:=ycx _ hW
  rw [List.length_map] at this
  show _≤_;omega
 have HV:=yaa hv
 clear hrow hv hW
 unfold cmL
 simp only [cm0]
 go_enter Tryz.func18,Tryz.ntmps18
 go_wp2_with (go_at_call 31;refine (hb _).mono ?_;rintro e w1 ⟨rfl,rfl⟩)
 go_loopw [8,9] (fun l i wr=>∃ k:Nat,k≤vs.length∧i=.int .i64 k∧wr.ownsRow (W.heap.size+2) 9 1 l k (((vs.map yaI).take k).flatMap stC)∧Hid (Hc W cs wr)) (fun _ i _=>vs.length - (intOf i).toNat)
 case atStart=>exact ⟨0,Nat.zero_le _,rfl,World.ownsRow_nil _ _ _ _,by have:=H0.out;rw [hcs.out] at this ⊢;exact this⟩
 case round =>
  obtain ⟨k,hk,rfl,hown,HS⟩:=hrel
  have d9:=HC.out wr HS.out
  by_cases hlt:k < vs.length
  ·obtain ⟨x,hx⟩:∃ x,vs[k]?=some x:=⟨vs[k],List.getElem?_eq_getElem hlt⟩
   have hlt':(k:Int) < (vs.length:Int):=by omega
   have g0:=ybj vlC 3 (fun _=>rfl) vs k x hx 0 (by decide)
   have g1:=ybj vlC 3 (fun _=>rfl) vs k x hx 1 (by decide)
   have g2:=ybj vlC 3 (fun _=>rfl) vs k x hx 2 (by decide)
   have e0:wr.cell? ⟨g,o+k*3,none⟩=some (.int .i64 x.k):=(HR.out wr HS.out _).trans (HROW.out _ _ g0)
   have e1:wr.cell? ⟨g,o+k*3+1,none⟩=some (.int .i64 x.n):=(HR.out wr HS.out _).trans (HROW.out (k*3+1) _ g1)
   have e2:wr.cell? ⟨g,o+k*3+2,none⟩=some (.string ⟨x.s.toArray⟩):=(HR.out wr HS.out _).trans (HROW.out (k*3+2) _ g2)
   have hvx:=fun W=>yeW x (HV.out x (List.mem_of_getElem? hx)) W
   have hmx:(vs.map yaI)[k]?=some (yaI x):=by rw [List.getElem?_map,hx];rfl
   have HM:=yaa hmx
   have HSZ:=yaa HS.out.size
   clear g0 g1 g2 hmx hx
   go_wp2_with fail
   refine (hvx _).mono ?_
   rintro e w2 ⟨rfl,b2⟩
   have own2:=(yeG hown b2).alloc (.cells #[.string ⟨(yaI x).toArray⟩] 9)
   have hlt5:=own2.lt
   have HS2:=yaa ((HS.out.below b2).below ((Below.refl _ _).alloc (Nat.le_refl _) (.cells #[.string ⟨(yaI x).toArray⟩] 9)))
   have hsz2:=(HS.out.below b2).size
   clear hown b2 e0 e1 e2 d9 hvx
   go_wp2_with (at_builtin;refine wpList_append_own _ rfl _ _ 26 rfl (W.heap.size+2) 9 i0 (.string ⟨#[]⟩) 1 16 Tryz.underlying26 hi hz0 hz1 hz2 rfl (by decide) _ _ _ rfl own2 ⟨w2.heap.size,0,none⟩ 1 1 [.string ⟨(yaI x).toArray⟩] rfl rfl ?c1 ?c2 ?c3 ?c4 ?c5 ?_)
   case c1 =>
    intro j u hj
    match j,hj with
    | 0,hj=>simp at hj;subst hj;simp [Addr.add]
   case c2=>intro u hu;simp at hu;rcases hu with rfl;rfl
   case c3=>unfold maxLen;omega
   case c4=>have:=HS2.out.size;omega
   case c5=>simp;omega
   intro v' w3 hown' hgrow _
   have HS3:Hid (Hc W cs w3):=HS2.out.over ((Below.refl _ _).grown hgrow HS2.out.size (fun q hq=>(hlt5 q hq).1))
   have own3:=yiy _ _ HM.out hown'
   clear hown' hgrow own2 hlt5
   go_wp2
   go_roundw
   case rel=>exact ⟨k+1,by omega,by go_num,own3,HS3⟩
   case measure=>simp [intOf];omega
  ·have hk':k=vs.length:=by omega
   have HK:=yaa hk'
   have hnlt:¬ ((k:Int) < (vs.length:Int)):=by omega
   obtain ⟨g',cap,hv'⟩:=yiz hown (by have:=List.length_pos_iff.2 hvs;omega)
   subst hv'
   have HO:=yaa hown
   clear hown hk'
   go_wp2_with fail
   refine yaT c10R (by kernel_rfl) ?_
   refine yrf n (yaR (vs.map yaI)) (.slice (some ⟨g',0,none⟩) k cap) W.heap.size (S:=fun w'=>Hc W cs w'∧w'.ownsRow (W.heap.size+2) 9 1 (.slice (some ⟨g',0,none⟩) k cap) k (((vs.map yaI).take k).flatMap stC)) rfl rfl rfl hn HL.out (fun w' h=>HN.out w' h.1) (fun w' h=>?_) ⟨HS.out.below (Below.refl _ _).drew,HO.out.drew⟩ ?_
   ·exact ygo HW.out HF.out (by rw [List.length_map];exact HK.out) h.2 fun hb=>⟨h.1.below hb,yeG h.2 hb⟩
   intro w' hS
   refine ‹∀ (a:Act) (w:World),Code.wp _ _ _ a w→_› _ _ ?_
   refine wp_ret ?_
   refine ygy ?_
   exact ybv 8 rfl (by unfold c10D;decide) rfl rfl (by simp) ⟨rfl,hS.1.bel⟩
def yhk (c:Cl):List UInt8:=(c.name++[32])++atL yaB c.ty
theorem ym1 (c:Cl) (h:1≤c.ty∧c.ty≤3):(yhk c).length≤c.name.length+5:=by
 have:c.ty=1∨c.ty=2∨c.ty=3:=by omega
 unfold yhk
 rcases this with e|e|e <;> rw [e] <;> simp [atL,yaB,yq1,ymQ,ymP]
theorem yuR (n:List UInt8) (vs:List Cl) (hvs:vs≠[]) (h5:vs.length≤5) (hv:∀ v ∈ vs,1≤v.ty∧v.ty≤3) (hwl:∀ v ∈ vs,v.name.length≤1000) (hn:n.length≤1000) (g o ca:Nat) (vv fv ea wa:Value) (W:World) (lt:g < W.heap.size)
  (hrow:∀ j x,(vs.flatMap clC)[j]?=some x→W.cell? ⟨g,o+j,none⟩=some x) :
  Calls Tryz.prog 18 #[.agg (cmL { cm0 with kind:=1,name:=n,cols:=vs } (.slice (some ⟨g,o,none⟩) vs.length ca) vv fv ea wa).toArray] W fun e w'=>e=.returned (.string ⟨(((([99,114,101,97,116,101,32,116,97,98,108,101,32]++n)++[32,40])++yaR (vs.map yhk))++[41]).toArray⟩)∧Below W.heap.size W w':=by
 obtain ⟨i0,hi,hz0,hz1,hz2⟩:=info_parts Tryz.info_str
 obtain ⟨cs,hcs⟩:∃ cs,Hid (cs=cmL { cm0 with kind:=1,name:=n,cols:=vs } (.slice (some ⟨g,o,none⟩) vs.length ca) vv fv ea wa):=⟨_,rfl⟩
 have H0:=yaa (Hc.start W cs)
 have zn:=yam n
 have hb:=fun W=>yaC (n:=1) (a:=11) (b:=13) (r:=false) (by decide) W
 have HC:=yaa (fun w2 (h2:Hc W cs w2)=>(h2.cell 4 (by rw [hcs.out];rfl):w2.cell? ⟨W.heap.size,4,none⟩=some (.slice (some ⟨g,o,none⟩) vs.length ca)))
 have HN:=yaa (fun w2 (h2:Hc W cs w2)=>(h2.cell 1 (by rw [hcs.out];rfl):w2.cell? ⟨W.heap.size,1,none⟩=some (.string ⟨n.toArray⟩)))
 have HR:=yaa (fun w2 (h2:Hc W cs w2) q=>(h2.bel.cell (p:=⟨g,q,none⟩) lt:w2.cell? ⟨g,q,none⟩=W.cell? ⟨g,q,none⟩))
 have HT:=yaa (fun w2 (h2:Hc W cs w2)=>h2.typ)
 have HROW:=yaa hrow
 have hW:∀ x ∈ vs.map yhk,x.length≤3000:=fun x hx=>by
  obtain ⟨v,hv1,rfl⟩:=List.mem_map.1 hx
  have h1:=hwl v hv1
  have h2:=ym1 v (hv v hv1)
  omega
 have HW:=yaa hW
 have HF:Hid ((vs.map yhk).length≤1000):=by show _≤_;rw [List.length_map];omega
 have HL:Hid ((yaR (vs.map yhk)).length≤4000000):=by
  have:=ycx _ hW
  rw [List.length_map] at this
  show _≤_;omega
 have HV:=yaa hv
 clear hrow hv hW
 unfold cmL
 simp only [cm0]
 go_enter Tryz.func18,Tryz.ntmps18
 go_wp2_with (go_at_call 31;refine (hb _).mono ?_;rintro e w1 ⟨rfl,rfl⟩)
 go_loopw [6,7] (fun l i wr=>∃ k:Nat,k≤vs.length∧i=.int .i64 k∧wr.ownsRow (W.heap.size+2) 9 1 l k (((vs.map yhk).take k).flatMap stC)∧Hid (Hc W cs wr)) (fun _ i _=>vs.length - (intOf i).toNat)
 case atStart=>exact ⟨0,Nat.zero_le _,rfl,World.ownsRow_nil _ _ _ _,by have:=H0.out;rw [hcs.out] at this ⊢;exact this⟩
 case round =>
  obtain ⟨k,hk,rfl,hown,HS⟩:=hrel
  have d9:=HC.out wr HS.out
  by_cases hlt:k < vs.length
  ·obtain ⟨x,hx⟩:∃ x,vs[k]?=some x:=⟨vs[k],List.getElem?_eq_getElem hlt⟩
   have hlt':(k:Int) < (vs.length:Int):=by omega
   have g0:=ybj clC 2 (fun _=>rfl) vs k x hx 0 (by decide)
   have g1:=ybj clC 2 (fun _=>rfl) vs k x hx 1 (by decide)
   have e0:wr.cell? ⟨g,o+k*2,none⟩=some (.string ⟨x.name.toArray⟩):=(HR.out wr HS.out _).trans (HROW.out _ _ g0)
   have e1:wr.cell? ⟨g,o+k*2+1,none⟩=some (.int .i64 x.ty):=(HR.out wr HS.out _).trans (HROW.out (k*2+1) _ g1)
   have hmx:(vs.map yhk)[k]?=some (yhk x):=by rw [List.getElem?_map,hx];rfl
   have hxv:=HV.out x (List.mem_of_getElem? hx)
   have hxl:=hwl x (List.mem_of_getElem? hx)
   have HM:=yaa hmx
   have HSZ:=yaa HS.out.size
   have HOW:=yaa hown
   have zx:=yam x.name
   have y1:¬ (9223372036854775807 < x.name.length+1):=by omega
   have d3:=HT.out wr HS.out
   clear g0 g1 hmx hx hown
   obtain ⟨xn,xt⟩:=x
   simp only at *
   obtain ⟨t,rfl⟩:∃ t:Nat,xt=(t:Int):=⟨xt.toNat,by omega⟩
   have ht4:(t:Int) < 4:=by omega
   have ht3:t≤3:=by omega
   obtain ⟨tt,htt⟩:∃ tt,Hid (atL yaB (t:Int)=tt):=⟨_,rfl⟩
   have hl4:=ymK t ht3
   rw [htt.out] at hl4
   have zt:=yam tt
   have HQ:Hid (∀ w',Hc W cs w'→w'.cell? ⟨W.heap.size,4,none⟩=some (.slice (some ⟨g,o,none⟩) vs.length ca)∧w'.cell? ⟨g,o+k*2,none⟩=some (.string ⟨xn.toArray⟩)∧w'.cell? ⟨g,o+k*2+1,none⟩=some (.int .i64 (t:Int))∧w'.cell? ⟨W.heap.size+1,t,none⟩=some (.string ⟨tt.toArray⟩)):=fun w' h=>by
    refine ⟨HC.out w' h,((HR.out w' h _).trans (HR.out wr HS.out _).symm).trans e0,((HR.out w' h _).trans (HR.out wr HS.out _).symm).trans e1, ?_⟩
    have:=yij h.typ t ht3
    rw [Nat.zero_add,htt.out] at this
    exact this
   have y2:¬ (9223372036854775807 < xn.length+1+tt.length):=by omega
   have HE:Hid (yhk ⟨xn,(t:Int)⟩=(xn++[32])++tt):=by show _=_;unfold yhk;rw [htt.out]
   clear d3 hxv
   go_wp2_with fail
   go_region_held_law (fun w'=>w'.cell? ⟨W.heap.size,4,none⟩=some (.slice (some ⟨g,o,none⟩) vs.length ca)∧w'.cell? ⟨g,o+k*2,none⟩=some (.string ⟨xn.toArray⟩)∧w'.cell? ⟨g,o+k*2+1,none⟩=some (.int .i64 (t:Int))∧w'.cell? ⟨W.heap.size+1,t,none⟩=some (.string ⟨tt.toArray⟩)) (first|exact HQ.out _ HS3.out|exact HQ.out _ (HS.out.below (Below.refl _ _).drew)|exact HQ.out _ ((HS.out.below (Below.refl _ _).drew).below ((Below.refl _ _).alloc (Nat.le_refl _) _))) (first|(refine step_append_lies _ (by rfl) _ _ _ (by rfl) (W.heap.size+2) 9 i0 _ 1 16 Tryz.underlying26 hi hz0 hz1 hz2 rfl (by omega) _ k (((vs.map yhk).take k).flatMap stC) (by rfl) (HOW.out.drew.alloc _) ⟨wr.heap.size,0,none⟩ 1 1 [.string (⟨xn.toArray⟩++⟨#[32]⟩++⟨tt.toArray⟩)] (by rfl) (by rfl) (World.news_of_block (cs:=#[.string (⟨xn.toArray⟩++⟨#[32]⟩++⟨tt.toArray⟩)]) (t:=9) (fr:=(0,0)) (heap_alloc_new wr.drew _)) (by simp [Value.oneCell']) (by omega) (by unfold maxLen;omega) (by omega) (by have:=HSZ.out;simp;omega) (wr.heap.size+1) (by simp) ?_;intro gg cap w1 hown1 hgrow hat1 hlt1;have HS3:Hid (Hc W cs w1):=((HS.out.below (Below.refl _ _).drew).below ((Below.refl _ _).alloc (Nat.le_refl _) _)).over ((Below.refl _ _).grown hgrow (by have:=HSZ.out;simp;omega) (fun q hq=>(HOW.out.lt q hq).1))))
   all_goals
    have own3:World.ownsRow w1 (W.heap.size+2) 9 1 (.slice (some ⟨gg,0,none⟩) (k+1) cap) (k+1) (((vs.map yhk).take (k+1)).flatMap stC):=yiy _ _ HM.out (by rw [HE.out,← yaz,← yaz];exact hown1)
    clear hown1 hgrow hat1 hlt1
    go_wp2
    go_roundw
    case rel=>exact ⟨k+1,by omega,by go_num,own3,HS3⟩
    case measure=>simp [intOf];omega
  ·have hk':k=vs.length:=by omega
   have HK:=yaa hk'
   have hnlt:¬ ((k:Int) < (vs.length:Int)):=by omega
   obtain ⟨g',cap,hv'⟩:=yiz hown (by have:=List.length_pos_iff.2 hvs;omega)
   subst hv'
   have HO:=yaa hown
   clear hown hk'
   go_wp2_with fail
   refine yaT c1R (by kernel_rfl) ?_
   refine yta n (yaR (vs.map yhk)) (.slice (some ⟨g',0,none⟩) k cap) W.heap.size (S:=fun w'=>Hc W cs w'∧w'.ownsRow (W.heap.size+2) 9 1 (.slice (some ⟨g',0,none⟩) k cap) k (((vs.map yhk).take k).flatMap stC)) rfl rfl rfl hn HL.out (fun w' h=>HN.out w' h.1) (fun w' h=>?_) ⟨HS.out.below (Below.refl _ _).drew,HO.out.drew⟩ ?_
   ·exact ygo HW.out HF.out (by rw [List.length_map];exact HK.out) h.2 fun hb=>⟨h.1.below hb,yeG h.2 hb⟩
   intro w' hS
   refine ‹∀ (a:Act) (w:World),Code.wp _ _ _ a w→_› _ _ ?_
   refine wp_ret ?_
   refine ygy ?_
   exact ybv 8 rfl (by unfold c1D;decide) rfl rfl (by simp) ⟨rfl,hS.1.bel⟩
theorem yaF {s:List UInt8} (h:yan s=true):s.length≤1000:=by
 have ht:=ydz h
 simp only [ybt,decide_eq_true_eq] at ht
 obtain ⟨h0,hlen,hk,hN,hw⟩:=ht
 have hk1:(ya2 s).1=1:=by omega
 rw [hk1] at hw
 unfold yay at hw
 rw [if_neg (by decide)] at hw
 split at hw
 ·cases hw
 ·rename_i h2
  omega
theorem yis {m:Int} (h:-1≤m∧m≤999999999):(Lib.itoa m).length≤1000:=by
 have key:∀ u:Nat,u≤999999999→(Lib.decDigits u).length≤9+1:=by
  have step:∀ k u:Nat,u < 10 ^ (k+1)→(Lib.decDigits u).length≤k+1:=by
   intro k
   induction k with
   | zero=>intro u hu;rw [Lib.decDigits];simp at hu;rw [dif_pos hu];simp
   | succ k ih =>
    intro u hu
    rw [Lib.decDigits]
    split
    ·simp
    ·have:=ih (u / 10) (by rw [Nat.div_lt_iff_lt_mul (by decide)];rw [Nat.pow_succ] at hu;exact hu)
     rw [List.length_append];simp;omega
  intro u hu
  exact step 9 u (by omega)
 unfold Lib.itoa
 split
 ·have:=key m.natAbs (by omega)
  simp only [List.length_cons];omega
 ·have:=key m.toNat (by omega)
  omega
theorem ydQ {W:World} {x:Ex} {wa:Value} (hr:RightE x) (hs:yaQ x≤15) (h:ExAt 0 W (exV x.k x.v x.nm wa) x):∀ W',Below W.heap.size W W'→Calls Tryz.prog 47 #[exV x.k x.v x.nm wa] W' fun e w'=>e=.returned (.string ⟨(ycM x).toArray⟩)∧Below W'.heap.size W' w' :=
 fun W' hB=>ymU hr (by omega) _ W' (h.under hB)
theorem yhj {c:Cm} (hc:RightC c) (cv vv fv ea wa:Value) (W:World) (hi:CmIn 0 W c cv vv fv ea wa) :
  Calls Tryz.prog 18 #[.agg (cmL c cv vv fv ea wa).toArray] W fun e w'=>e=.returned (.string ⟨(ybY c).toArray⟩)∧Below W.heap.size W w':=by
 have vl:∀ {v:Vl},ybJ v=true→(yaI v).length≤3000:=fun h=>Nat.le_trans (yhO (yem h)) (by decide)
 cases hc with
 | create n hn l hl h5 h =>
  rw [ytq n (ybb hn) l hl (fun x hx=>⟨ybb (h x hx).1,yhM (h x hx).2⟩)]
  rcases hi.cols with ⟨h0,-⟩|⟨b,off,cap,e,-,lt,hr⟩
  ·exact absurd (List.length_eq_zero_iff.1 h0) hl
  ·have e1:cv=.slice (some ⟨b,off,none⟩) l.length cap:=e
   rw [e1]
   exact yuR n l hl h5 (fun x hx=>(h x hx).2) (fun x hx=>yaF (h x hx).1) (yaF hn) b off cap vv fv ea wa W lt hr
 | drop n hn=>rw [ytr n (ybb hn)];exact yuS n (yaF hn) cv vv fv ea wa W
 | add n c hn hc t ht v hv =>
  rw [yts n (ybb hn) c (ybb hc) t (yhM ht) v]
  obtain ⟨t,rfl⟩:∃ k:Nat,t=(k:Int):=⟨t.toNat,by omega⟩
  exact yuT n c t v (by omega) hv (vl hv) (yaF hn) (yaF hc) cv vv fv ea wa W
 | take n c hn hc=>rw [ytt n (ybb hn) c (ybb hc)];exact yuU n c (yaF hn) (yaF hc) cv vv fv ea wa W
 | column n c o hn hc ho=>rw [ytu n (ybb hn) c (ybb hc) o (ybb ho)];exact yuV n c o (yaF hn) (yaF hc) (yaF ho) cv vv fv ea wa W
 | retype n c hn hc t ht =>
  rw [ytv n (ybb hn) c (ybb hc) t (yhM ht)]
  have:t=1∨t=2∨t=3:=by omega
  rcases this with rfl|rfl|rfl
  ·exact yrm n c (yaF hn) (yaF hc) cv vv fv ea wa W
  ·exact yrn n c (yaF hn) (yaF hc) cv vv fv ea wa W
  ·exact yro n c (yaF hn) (yaF hc) cv vv fv ea wa W
 | table n o hn ho=>rw [ytw n (ybb hn) o (ybb ho)];exact yuW n o (yaF hn) (yaF ho) cv vv fv ea wa W
 | index n c o hn hc ho=>rw [ytx n (ybb hn) c (ybb hc) o (ybb ho)];exact yuX n c o (yaF hn) (yaF hc) (yaF ho) cv vv fv ea wa W
 | unindex n hn=>rw [yty n (ybb hn)];exact yuY n (yaF hn) cv vv fv ea wa W
 | insert n hn l hl h5 h =>
  rw [yrp n (ybb hn) l hl]
  rcases hi.vals with ⟨h0,-⟩|⟨b,off,cap,e,-,lt,hr⟩
  ·exact absurd (List.length_eq_zero_iff.1 h0) hl
  ·have e1:vv=.slice (some ⟨b,off,none⟩) l.length cap:=e
   rw [e1]
   exact ytm n l hl h5 h (fun v hv=>vl (h v hv)) (yaF hn) b off cap cv fv ea wa W lt hr
 | delete n hn a x hw =>
  rw [yrq n (ybb hn) a x hw]
  cases hw with
  | none=>exact ypF n ex0 (yaF hn) cv vv fv ea wa W
  | some x hr hs=>exact ypE n x (ycM x) (yaF hn) cv vv fv ea wa W (ydQ hr hs hi.wh) (ycf hr (by omega))
 | update n c hn hc y hy hys a x hw =>
  rw [yrr n (ybb hn) c (ybb hc) y hy a x hw]
  cases hw with
  | none=>exact ypH n c y ex0 (ycM y) (yaF hn) (yaF hc) cv vv fv ea wa W (ydQ hy hys hi.expr) (ycf hy (by omega))
  | some x hr hs=>exact ypG n c y x (ycM y) (ycM x) (yaF hn) (yaF hc) cv vv fv ea wa W (ydQ hy hys hi.expr) (ycf hy (by omega)) (ydQ hr hs hi.wh) (ycf hr (by omega))
 | select n hn l h5 hl a x hw o ho m hm =>
  rw [yrs n (ybb hn) l (fun x hx=>ybb (hl x hx)) a x hw o (ho.imp id ybb) m _ rfl]
  obtain ⟨ao,ca,e⟩:=hi.fields.form
  have e1:fv=.slice ao l.length ca:=e
  subst e1
  have hol:o.length≤1000:=by rcases ho with rfl|ho;simp;exact yaF ho
  have hcl:(yaR l).length≤4000000:=by
   have:=ycx l (fun x hx=>Nat.le_trans (yaF (hl x hx)) (by decide))
   omega
  have hcm:¬ l=[]→∀ W',Below W.heap.size W W'→Calls Tryz.prog 48 #[.slice ao l.length ca] W' fun e w'=>e=.returned (.string ⟨(yaR l).toArray⟩)∧w'=W':=by
   intro hne W' hB
   obtain ⟨g,off,rfl,-,lt,hr⟩:=RowAt.spread hi.fields (List.length_pos_iff.2 hne)
   refine yfg l g off ca W' (fun k x hx=>?_) (by omega) (fun x hx=>Nat.le_trans (yaF (hl x hx)) (by decide))
   exact (hB.cell (p:=⟨g,off+k,none⟩) lt).trans (yeM hr k x hx)
  have hdg:¬ m < 0→∀ W',Calls Tryz.prog 50 #[.int .i64 m] W' fun e w'=>e=.returned (.string ⟨(Lib.itoa m).toArray⟩)∧Below W'.heap.size W' w':=fun _ W'=>yfj m W' (by omega) (by omega)
  cases hw with
  | none=>exact ypJ n l ex0 o m (yaF hn) hcl hol (yis hm) cv vv ea wa ao ca W hcm hdg
  | some x hr hs=>exact ypI n l x o m (ycM x) (yaF hn) hcl hol (yis hm) cv vv ea wa ao ca W (ydQ hr hs hi.wh) (ycf hr (by omega)) hcm hdg
 | begin_=>rw [yrt];exact ytn cv vv fv ea wa W
 | commit=>rw [yru];exact yto cv vv fv ea wa W
 | rollback=>rw [yrv];exact ytp cv vv fv ea wa W
end Go.Proofs.YtkpeklealgicpabGreatDoor
