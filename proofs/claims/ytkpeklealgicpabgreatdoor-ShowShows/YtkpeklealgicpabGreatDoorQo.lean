/-
  The law ShowShows: what it answers.
  The law ShowShows: its call.
  A command that came in: what its reading says of its cells.
  What the listed variables give, and a world that holds them.
  What the listed variables of ShowShows give, and a world that holds them.
-/
import Derived.ProofKit
import Derived.Deep.Slices
import Derived.Deep.Strs
import Derived.Lib.SmallJoins
import Derived.SizedLaws
import Derived.ChangeOld
import Derived.Test.YtkpeklealgicpabGreatDoorRows
import Derived.LaidMore
import Derived.Stop.LaidErr
import Derived.Lib.LaidTab
import Derived.OpenShut
import Derived.MakeChecks
import Derived.Shelf.Vars
import Derived.Deep.DeepHandedRow
import Derived.Deep.DeepWitnessRowRef
import Derived.Test.YtkpeklealgicpabGreatDoorQa
import Derived.Test.YtkpeklealgicpabGreatDoorQb
import Derived.Test.YtkpeklealgicpabGreatDoorQc
import Derived.Test.YtkpeklealgicpabGreatDoorQg
import Derived.Test.YtkpeklealgicpabGreatDoorQi
import Derived.Test.YtkpeklealgicpabGreatDoorQm
import Derived.Test.YtkpeklealgicpabGreatDoorQn

set_option maxRecDepth 100000
set_option maxHeartbeats 8000000
namespace Go.Proofs.YtkpeklealgicpabGreatDoor
open Go.RowKit
theorem yu0 (W:World) (x y:Operand) (n m:List UInt8):(do eqGuard .eql 9 x y (.string ⟨n.toArray⟩) (.string ⟨m.toArray⟩);binOp .eql 9 (.string ⟨n.toArray⟩) (.string ⟨m.toArray⟩):Sem Value).run Tryz.prog W=.ok (.bool (decide (n=m))) W:=by
 by_cases h:n=m
 ·subst h;go_simp
 ·have h1:=ycJ h
  have h2:(n == m)=false:=beq_eq_false_iff_ne.2 h
  go_simp
theorem yuH (args:Array Value) (W:World):(callFunc 11 args).run Tryz.prog W=.ok (.enter 11 args) W:=by go_simp
theorem yuI (args:Array Value) (W:World):(callFunc 19 args).run Tryz.prog W=.ok (.enter 19 args) W:=by go_simp
theorem yuu (args:Array Value) (W:World):(callFunc 20 args).run Tryz.prog W=.ok (.enter 20 args) W:=by go_simp
noncomputable def ss_R:Array Oper:=((Tryz.f6.body).bind (yas 5)).getD #[]
def yvs (c y:Cm) (cv vv fv ea wa cv' vv' fv' ea' wa':Value) (t:Bool) (j:Nat):Value:=([.bool true,.bool true,gw (true == true) (.int .i64 (ybH (yaN c) (ybF c))),gw (true == true) (.int .i64 (ybH (yaN c) (ybF c))),gw (true == true) (.bool (decide ((ybH (yaN c) (ybF c))=(ybH (yaN c) (ybF c))))),.bool (true&&(decide ((ybH (yaN c) (ybF c))=(ybH (yaN c) (ybF c))))),.bool (true&&(decide ((ybH (yaN c) (ybF c))=(ybH (yaN c) (ybF c))))),gw ((true&&(decide ((ybH (yaN c) (ybF c))=(ybH (yaN c) (ybF c))))) == true) (.string ⟨(ybh c).toArray⟩),gw ((true&&(decide ((ybH (yaN c) (ybF c))=(ybH (yaN c) (ybF c))))) == true) (.string ⟨(ybh c).toArray⟩),gw ((true&&(decide ((ybH (yaN c) (ybF c))=(ybH (yaN c) (ybF c))))) == true) (.bool (decide ((ybh c)=(ybh c)))),.bool ((true&&(decide ((ybH (yaN c) (ybF c))=(ybH (yaN c) (ybF c)))))&&(decide ((ybh c)=(ybh c)))),.bool ((true&&(decide ((ybH (yaN c) (ybF c))=(ybH (yaN c) (ybF c)))))&&(decide ((ybh c)=(ybh c)))),gw (((true&&(decide ((ybH (yaN c) (ybF c))=(ybH (yaN c) (ybF c)))))&&(decide ((ybh c)=(ybh c)))) == true) (.agg (cmL c cv vv fv ea wa).toArray),gw (((true&&(decide ((ybH (yaN c) (ybF c))=(ybH (yaN c) (ybF c)))))&&(decide ((ybh c)=(ybh c)))) == true) (.agg (cmL y cv' vv' fv' ea' wa').toArray),gw (((true&&(decide ((ybH (yaN c) (ybF c))=(ybH (yaN c) (ybF c)))))&&(decide ((ybh c)=(ybh c)))) == true) (.bool t),gw (((true&&(decide ((ybH (yaN c) (ybF c))=(ybH (yaN c) (ybF c)))))&&(decide ((ybh c)=(ybh c)))) == true) (.agg (cmL c cv vv fv ea wa).toArray),gw (((true&&(decide ((ybH (yaN c) (ybF c))=(ybH (yaN c) (ybF c)))))&&(decide ((ybh c)=(ybh c)))) == true) (.agg (cmL y cv' vv' fv' ea' wa').toArray),gw (((true&&(decide ((ybH (yaN c) (ybF c))=(ybH (yaN c) (ybF c)))))&&(decide ((ybh c)=(ybh c)))) == true) (.bool t),gw (((true&&(decide ((ybH (yaN c) (ybF c))=(ybH (yaN c) (ybF c)))))&&(decide ((ybh c)=(ybh c)))) == true) (.bool (t == t)),.bool (((true&&(decide ((ybH (yaN c) (ybF c))=(ybH (yaN c) (ybF c)))))&&(decide ((ybh c)=(ybh c))))&&(t == t)),.bool (((true&&(decide ((ybH (yaN c) (ybF c))=(ybH (yaN c) (ybF c)))))&&(decide ((ybh c)=(ybh c))))&&(t == t)),gw ((((true&&(decide ((ybH (yaN c) (ybF c))=(ybH (yaN c) (ybF c)))))&&(decide ((ybh c)=(ybh c))))&&(t == t)) == true) (.agg (cmL c cv vv fv ea wa).toArray),gw ((((true&&(decide ((ybH (yaN c) (ybF c))=(ybH (yaN c) (ybF c)))))&&(decide ((ybh c)=(ybh c))))&&(t == t)) == true) (.agg (cmL c cv vv fv ea wa).toArray),gw ((((true&&(decide ((ybH (yaN c) (ybF c))=(ybH (yaN c) (ybF c)))))&&(decide ((ybh c)=(ybh c))))&&(t == t)) == true) (.bool true),.bool ((((true&&(decide ((ybH (yaN c) (ybF c))=(ybH (yaN c) (ybF c)))))&&(decide ((ybh c)=(ybh c))))&&(t == t))&&true),.bool ((((true&&(decide ((ybH (yaN c) (ybF c))=(ybH (yaN c) (ybF c)))))&&(decide ((ybh c)=(ybh c))))&&(t == t))&&true)]:List Value).getD j undef
def ss_d:List (Option Tmp):=[some 20,some 21,some 22,some 23,some 24,some 25,some 26,some 27,some 28,some 29,some 30,some 31,some 32,some 33,some 34,some 35,some 36,some 37,some 38,some 39,some 40,some 41,some 42,some 43,some 44,some 4]
theorem yga:ss_d.Nodup:=by unfold ss_d;decide
theorem ysT {c y:Cm} {cv vv fv ea wa cv' vv' fv' ea' wa':Value} {rb sb:Nat} {t:Bool} {S:World→Prop} {a0:Act} {Q:Exit→Act→World→Prop} {w:World} (h2:a0.tmps[2]?=some (.pointer (some ⟨rb,0,none⟩))) (h3:a0.tmps[3]?=some (.pointer (some ⟨sb,0,none⟩))) (h5:a0.tmps[5]?=some (.string ⟨(ybh c).toArray⟩)) (h6:a0.tmps[6]?=some (.int .i64 (ybH (yaN c) (ybF c)))) (h7:a0.tmps[7]?=some (.int .i64 (ybH (yaN c) (ybF c)))) (h8:a0.tmps[8]?=some (.string ⟨(ybh c).toArray⟩)) (hc:∀ W,S W→∀ o x,(cmL c cv vv fv ea wa)[o]?=some x→W.cell? ⟨rb,o,none⟩=some x) (hd:∀ W,S W→∀ o x,(cmL y cv' vv' fv' ea' wa')[o]?=some x→W.cell? ⟨sb,o,none⟩=some x) (q20:∀ W,S W→Calls Tryz.prog 19 #[] W fun e w'=>e=.returned (.bool true)∧S w') (q34:∀ W,S W→Calls Tryz.prog 20 #[.agg (cmL c cv vv fv ea wa).toArray,.agg (cmL y cv' vv' fv' ea' wa').toArray] W fun e w'=>e=.returned (.bool t)∧S w') (q37:∀ W,S W→Calls Tryz.prog 11 #[.agg (cmL c cv vv fv ea wa).toArray,.agg (cmL y cv' vv' fv' ea' wa').toArray] W fun e w'=>e=.returned (.bool t)∧S w') (q43:∀ W,S W→Calls Tryz.prog 20 #[.agg (cmL c cv vv fv ea wa).toArray,.agg (cmL c cv vv fv ea wa).toArray] W fun e w'=>e=.returned (.bool true)∧S w') (ha:a0.tmps.size=45) (hS:S w.drew)
  (hq:∀ w',S w'→Q .normal { tmps:=(ydW a0.tmps.toList (ss_d.zip ((List.range 26).map (yvs c y cv vv fv ea wa cv' vv' fv' ea' wa' t)))).toArray,defers:=a0.defers } w'):(Code.region 5 ss_R true).wp Tryz.prog Q a0 w:=by
 have hz:ss_R.size=26:=by kernel_rfl
 refine yd9 (m:=45) (by kernel_rfl) hz (by kernel_rfl) (by kernel_rfl) yga ha ?_ hS hq
 refine us ?_ (ya1 hz (by decide) (by kernel_rfl) fun _ _ s _=>yaA (x:=.tmp 44) (by kernel_rfl) (s.u 24 44 (by kernel_rfl)))
 refine us ?_ (ya1 hz (by decide) (by kernel_rfl) fun _ _ s _=>yav (G:=true) (by kernel_rfl) (s.u 20 40 (by kernel_rfl)) (s.u 23 43 (by kernel_rfl)) rfl rfl)
 refine us ?_ (yc9 true 20 40 true hz (by decide) (by kernel_rfl) rfl rfl (fun hG _ _ s=>ybp (ts:=#[31,31]) (x:=.tmp 41) (y:=.tmp 42) (f:=20) yuu (by kernel_rfl) rfl (s.g 21 41 (by kernel_rfl) hG rfl) (s.g 22 42 (by kernel_rfl) hG rfl)) q43)
 refine us ?_ (yaM true 20 40 true hz (by decide) (by kernel_rfl) rfl rfl fun _ _ W s hS=>yaf (x:=.tmp 2) (t:=31) (by kernel_rfl) (s.b 2 (by kernel_rfl) h2) (yrc W _ _ _ _ _ _ _ (hc W hS)))
 refine us ?_ (yaM true 20 40 true hz (by decide) (by kernel_rfl) rfl rfl fun _ _ W s hS=>yaf (x:=.tmp 2) (t:=31) (by kernel_rfl) (s.b 2 (by kernel_rfl) h2) (yrc W _ _ _ _ _ _ _ (hc W hS)))
 refine us ?_ (ya1 hz (by decide) (by kernel_rfl) fun _ _ s _=>yac (x:=.tmp 39) (by kernel_rfl) (s.u 19 39 (by kernel_rfl)))
 refine us ?_ (ya1 hz (by decide) (by kernel_rfl) fun _ _ s _=>yav (G:=true) (by kernel_rfl) (s.u 11 31 (by kernel_rfl)) (s.u 18 38 (by kernel_rfl)) rfl rfl)
 refine us ?_ (yaM true 11 31 true hz (by decide) (by kernel_rfl) rfl rfl fun hG _ W s _=>yaq (u:=4) (x:=.tmp 34) (y:=.tmp 37) (by kernel_rfl) (s.g 14 34 (by kernel_rfl) hG rfl) (s.g 17 37 (by kernel_rfl) hG rfl) (ytz W _ _ _ _))
 refine us ?_ (yc9 true 11 31 true hz (by decide) (by kernel_rfl) rfl rfl (fun hG _ _ s=>ybp (ts:=#[31,31]) (x:=.tmp 35) (y:=.tmp 36) (f:=11) yuH (by kernel_rfl) rfl (s.g 15 35 (by kernel_rfl) hG rfl) (s.g 16 36 (by kernel_rfl) hG rfl)) q37)
 refine us ?_ (yaM true 11 31 true hz (by decide) (by kernel_rfl) rfl rfl fun _ _ W s hS=>yaf (x:=.tmp 3) (t:=31) (by kernel_rfl) (s.b 3 (by kernel_rfl) h3) (yrc W _ _ _ _ _ _ _ (hd W hS)))
 refine us ?_ (yaM true 11 31 true hz (by decide) (by kernel_rfl) rfl rfl fun _ _ W s hS=>yaf (x:=.tmp 2) (t:=31) (by kernel_rfl) (s.b 2 (by kernel_rfl) h2) (yrc W _ _ _ _ _ _ _ (hc W hS)))
 refine us ?_ (yc9 true 11 31 true hz (by decide) (by kernel_rfl) rfl rfl (fun hG _ _ s=>ybp (ts:=#[31,31]) (x:=.tmp 32) (y:=.tmp 33) (f:=20) yuu (by kernel_rfl) rfl (s.g 12 32 (by kernel_rfl) hG rfl) (s.g 13 33 (by kernel_rfl) hG rfl)) q34)
 refine us ?_ (yaM true 11 31 true hz (by decide) (by kernel_rfl) rfl rfl fun _ _ W s hS=>yaf (x:=.tmp 3) (t:=31) (by kernel_rfl) (s.b 3 (by kernel_rfl) h3) (yrc W _ _ _ _ _ _ _ (hd W hS)))
 refine us ?_ (yaM true 11 31 true hz (by decide) (by kernel_rfl) rfl rfl fun _ _ W s hS=>yaf (x:=.tmp 2) (t:=31) (by kernel_rfl) (s.b 2 (by kernel_rfl) h2) (yrc W _ _ _ _ _ _ _ (hc W hS)))
 refine us ?_ (ya1 hz (by decide) (by kernel_rfl) fun _ _ s _=>yac (x:=.tmp 30) (by kernel_rfl) (s.u 10 30 (by kernel_rfl)))
 refine us ?_ (ya1 hz (by decide) (by kernel_rfl) fun _ _ s _=>yav (G:=true) (by kernel_rfl) (s.u 6 26 (by kernel_rfl)) (s.u 9 29 (by kernel_rfl)) rfl rfl)
 refine us ?_ (yaM true 6 26 true hz (by decide) (by kernel_rfl) rfl rfl fun hG _ W s _=>yaq (u:=9) (x:=.tmp 27) (y:=.tmp 28) (by kernel_rfl) (s.g 7 27 (by kernel_rfl) hG rfl) (s.g 8 28 (by kernel_rfl) hG rfl) (yu0 W _ _ _ _))
 refine us ?_ (yaM true 6 26 true hz (by decide) (by kernel_rfl) rfl rfl fun _ _ _ s _=>yac (x:=.tmp 8) (by kernel_rfl) (s.b 8 (by kernel_rfl) h8))
 refine us ?_ (yaM true 6 26 true hz (by decide) (by kernel_rfl) rfl rfl fun _ _ _ s _=>yac (x:=.tmp 5) (by kernel_rfl) (s.b 5 (by kernel_rfl) h5))
 refine us ?_ (ya1 hz (by decide) (by kernel_rfl) fun _ _ s _=>yac (x:=.tmp 25) (by kernel_rfl) (s.u 5 25 (by kernel_rfl)))
 refine us ?_ (ya1 hz (by decide) (by kernel_rfl) fun _ _ s _=>yav (G:=true) (by kernel_rfl) (s.u 1 21 (by kernel_rfl)) (s.u 4 24 (by kernel_rfl)) rfl rfl)
 refine us ?_ (yaM true 1 21 true hz (by decide) (by kernel_rfl) rfl rfl fun hG _ W s _=>yaq (u:=32) (x:=.tmp 22) (y:=.tmp 23) (by kernel_rfl) (s.g 2 22 (by kernel_rfl) hG rfl) (s.g 3 23 (by kernel_rfl) hG rfl) (ypK W _ _ _ _))
 refine us ?_ (yaM true 1 21 true hz (by decide) (by kernel_rfl) rfl rfl fun _ _ _ s _=>yac (x:=.tmp 7) (by kernel_rfl) (s.b 7 (by kernel_rfl) h7))
 refine us ?_ (yaM true 1 21 true hz (by decide) (by kernel_rfl) rfl rfl fun _ _ _ s _=>yac (x:=.tmp 6) (by kernel_rfl) (s.b 6 (by kernel_rfl) h6))
 refine us ?_ (ya1 hz (by decide) (by kernel_rfl) fun _ _ s _=>yac (x:=.tmp 20) (by kernel_rfl) (s.u 0 20 (by kernel_rfl)))
 refine us ?_ (yol hz (by decide) (by kernel_rfl) (fun _ _ _=>ync (ts:=#[])  (f:=19) yuI (by kernel_rfl) rfl ) q20)
 exact fun j hj=>absurd hj (Nat.not_lt_zero j)
theorem yoN (c y:Cm) (cv vv fv ea wa cv' vv' fv' ea' wa':Value) (w:World) (t:Bool) (E:Int) (hE:Hid (ybH (yaN c) (ybF c)=E))
  (hs:∀ W,Below w.heap.size w W→Calls Tryz.prog 17 #[.agg (cmL c cv vv fv ea wa).toArray] W fun e w'=>e=.returned (.tuple #[.string ⟨(ybh c).toArray⟩,.int .i64 E])∧Below W.heap.size W w')
  (hk:∀ W,Below w.heap.size w W→Calls Tryz.prog 13 #[.agg (cmL c cv vv fv ea wa).toArray] W fun e w'=>e=.returned (.int .i64 E)∧Below W.heap.size W w')
  (ht:E=0→∀ W,Below w.heap.size w W→Calls Tryz.prog 18 #[.agg (cmL c cv vv fv ea wa).toArray] W fun e w'=>e=.returned (.string ⟨(ybh c).toArray⟩)∧Below W.heap.size W w')
  (hz:E≠0→ybh c=[])
  (hg:∀ W,Below w.heap.size w W→Calls Tryz.prog 19 #[] W fun e w'=>e=.returned (.bool true)∧Below W.heap.size W w')
  (h1:∀ W,Below w.heap.size w W→Calls Tryz.prog 20 #[.agg (cmL c cv vv fv ea wa).toArray,.agg (cmL y cv' vv' fv' ea' wa').toArray] W fun e w'=>e=.returned (.bool t)∧Below W.heap.size W w')
  (h2:∀ W,Below w.heap.size w W→Calls Tryz.prog 11 #[.agg (cmL c cv vv fv ea wa).toArray,.agg (cmL y cv' vv' fv' ea' wa').toArray] W fun e w'=>e=.returned (.bool t)∧Below W.heap.size W w')
  (h3:∀ W,Below w.heap.size w W→Calls Tryz.prog 20 #[.agg (cmL c cv vv fv ea wa).toArray,.agg (cmL c cv vv fv ea wa).toArray] W fun e w'=>e=.returned (.bool true)∧Below W.heap.size W w') :
  Calls Tryz.prog 6 #[.agg (cmL c cv vv fv ea wa).toArray,.agg (cmL y cv' vv' fv' ea' wa').toArray] w fun e w'=>e=.returned (.bool true)∧Below w.heap.size w w':=by
 have lc:(cmL c cv vv fv ea wa).length=26:=rfl
 obtain ⟨cs,hcs⟩:∃ cs,Hid (cmL c cv vv fv ea wa=cs):=⟨_,rfl⟩
 obtain ⟨ds,hds⟩:∃ ds,Hid (cmL y cv' vv' fv' ea' wa'=ds):=⟨_,rfl⟩
 rw [hcs.out] at lc hs hk ht h1 h2 h3 ⊢
 rw [hds.out] at h1 h2 ⊢
 have hsz:(Tryz.prog.info? 31).map (·.size)=some cs.length:=by rw [lc];exact Tryz.size31
 have HG:=yaa hg
 have H1:=yaa h1
 have H2':=yaa h2
 have H3:=yaa h3
 have HZ:=yaa hz
 have HT:=yaa ht
 clear hg h1 h2 h3 hz ht lc
 go_enter Tryz.func6,Tryz.ntmps6
 go_wp2_with (first|(refine yah 2 31 _ cs rfl rfl rfl rfl ?_;intro W0 rb hrb k0 b0)|(refine yah 3 31 _ ds rfl rfl rfl rfl ?_;intro W1 sb hsb j1 b1;have hh1:H2 w rb sb cs ds W1:=⟨b0.trans (b1.mono b0.size),(b1.block rb (ltS k0)).trans k0,j1⟩;have kk1:=hh1.rk)|(refine yag 31 _ rfl rfl _ cs 31 _ rfl (by exact kk1) Tryz.underlying31 rfl hsz ?_))
 refine (hs _ hh1.bel).mono ?_
 rintro e W2 ⟨rfl,b2⟩
 have hh2:=hh1.below b2
 have kk2:=hh2.rk
 clear hs
 go_wp2_with (refine yag 31 _ rfl rfl _ cs 31 _ rfl (by exact kk2) Tryz.underlying31 rfl hsz ?_)
 refine (hk _ hh2.bel).mono ?_
 rintro e W3 ⟨rfl,b3⟩
 have hh3:=hh2.below b3
 have kk3:=hh3.rk
 clear hk
 by_cases e0:E=0
 ·subst e0
  go_wp2_with (refine yag 31 _ rfl rfl _ cs 31 _ rfl (by exact kk3) Tryz.underlying31 rfl hsz ?_)
  refine (HT.out trivial _ hh3.bel).mono ?_
  rintro e W4 ⟨rfl,b4⟩
  have hh4:=hh3.below b4
  go_wp2_with fail
  refine yaT ss_R (by kernel_rfl) ?_
  refine ysT (c:=c) (y:=y) (cv:=cv) (vv:=vv) (fv:=fv) (ea:=ea) (wa:=wa) (cv':=cv') (vv':=vv') (fv':=fv') (ea':=ea') (wa':=wa') (rb:=rb) (sb:=sb) (t:=t) (S:=H2 w rb sb cs ds) rfl rfl ?h5 ?h6 ?h7 ?h8 (fun W h o x hx=>by rw [hcs.out] at hx;rw [Lib.cell_of_heap h.rk];simpa using hx) (fun W h o x hx=>by rw [hds.out] at hx;rw [Lib.cell_of_heap h.sk];simpa using hx) (fun W h=>(HG.out W h.bel).mono fun e w' q=>⟨q.1,h.below q.2⟩) (fun W h=>by rw [hcs.out,hds.out];exact (H1.out W h.bel).mono fun e w' q=>⟨q.1,h.below q.2⟩) (fun W h=>by rw [hcs.out,hds.out];exact (H2'.out W h.bel).mono fun e w' q=>⟨q.1,h.below q.2⟩) (fun W h=>by rw [hcs.out];exact (H3.out W h.bel).mono fun e w' q=>⟨q.1,h.below q.2⟩) rfl (hh4.below (Below.refl _ _).drew) ?_
  case h5=>rfl
  case h6=>rw [hE.out];rfl
  case h7=>rw [hE.out];rfl
  case h8=>rfl
  intro w' hS
  refine ‹∀ (a:Act) (w:World),Code.wp _ _ _ a w→_› _ _ ?_
  refine wp_ret ?_
  exact ybv 25 rfl yga rfl rfl (by simp) ⟨yaw (by simp),hS.bel⟩
 ·have e0':(E == 0)=false:=by simpa using e0
  have HZ':=yaa (HZ.out e0)
  clear e0
  go_wp2_with fail
  refine yaT ss_R (by kernel_rfl) ?_
  refine ysT (c:=c) (y:=y) (cv:=cv) (vv:=vv) (fv:=fv) (ea:=ea) (wa:=wa) (cv':=cv') (vv':=vv') (fv':=fv') (ea':=ea') (wa':=wa') (rb:=rb) (sb:=sb) (t:=t) (S:=H2 w rb sb cs ds) rfl rfl ?h5 ?h6 ?h7 ?h8 (fun W h o x hx=>by rw [hcs.out] at hx;rw [Lib.cell_of_heap h.rk];simpa using hx) (fun W h o x hx=>by rw [hds.out] at hx;rw [Lib.cell_of_heap h.sk];simpa using hx) (fun W h=>(HG.out W h.bel).mono fun e w' q=>⟨q.1,h.below q.2⟩) (fun W h=>by rw [hcs.out,hds.out];exact (H1.out W h.bel).mono fun e w' q=>⟨q.1,h.below q.2⟩) (fun W h=>by rw [hcs.out,hds.out];exact (H2'.out W h.bel).mono fun e w' q=>⟨q.1,h.below q.2⟩) (fun W h=>by rw [hcs.out];exact (H3.out W h.bel).mono fun e w' q=>⟨q.1,h.below q.2⟩) rfl (hh3.below (Below.refl _ _).drew) ?_
  case h5=>rfl
  case h6=>rw [hE.out];rfl
  case h7=>rw [hE.out];rfl
  case h8=>rw [HZ'.out];rfl
  intro w' hS
  refine ‹∀ (a:Act) (w:World),Code.wp _ _ _ a w→_› _ _ ?_
  refine wp_ret ?_
  exact ybv 25 rfl yga rfl rfl (by simp) ⟨yaw (by simp),hS.bel⟩
theorem ymC (c y:Cm) (cv vv fv ea wa cv' vv' fv' ea' wa':Value) (w:World) (hi:CmIn 0 w c cv vv fv ea wa) (hi':CmIn 0 w y cv' vv' fv' ea' wa') (hf:CmFit c) (hf':CmFit y) {EP:Prop} (hl:LaidIf EP w) :
  Calls Tryz.prog 6 #[.agg (cmL c cv vv fv ea wa).toArray,.agg (cmL y cv' vv' fv' ea' wa').toArray] w fun e w'=>e=.returned (.bool true)∧Below w.heap.size w w':=by
 obtain ⟨t,ht⟩:∃ b:Bool,(b=true↔c=y):=by
  by_cases hp:c=y
  ·exact ⟨true,by simp [hp]⟩
  ·exact ⟨false,by simp [hp]⟩
 refine yoN c y cv vv fv ea wa cv' vv' fv' ea' wa' w t _ (yaa rfl) (fun W hW=>yiN c cv vv fv ea wa (ydx hi hW) hf (hl.below hW)) (fun W hW=>yd3 c cv vv fv ea wa (ydx hi hW) hf) (fun h0 W hW=>?_) (fun h0=>if_neg h0) (fun W hW=>yjU W (hl.below hW)) (fun W hW=>?_) (fun W hW=>?_) (fun W hW=>ygS c cv vv fv ea wa cv vv fv ea wa W (ydx hi hW) (ydx hi hW) hf)
 ·have h1:yaN c=false∧ybF c=true:=by
   unfold ybH at h0
   cases hm:yaN c <;> cases hr:ybF c <;> simp [hm,hr] at h0 <;> simp
  rw [show ybh c=ybY c from if_pos h0]
  exact yhj (yiH h1.2 h1.1) cv vv fv ea wa W (ydx hi hW)
 ·refine (yoH c y cv vv fv ea wa cv' vv' fv' ea' wa' W (ydx hi hW) (ydx hi' hW) hf).mono ?_
  rintro e w' ⟨⟨b,rfl,hb⟩,bel⟩
  rw [Bool.eq_iff_iff.2 (hb.trans ht.symm)]
  exact ⟨rfl,bel⟩
 ·refine (yh8 c y cv vv fv ea wa cv' vv' fv' ea' wa' W (ydx hi hW) (ydx hi' hW) hf hf').mono ?_
  rintro e w' ⟨⟨b,rfl,hb⟩,bel⟩
  rw [Bool.eq_iff_iff.2 (hb.trans ht.symm)]
  exact ⟨rfl,bel⟩
theorem oc3:Tryz.prog.cellsOf 3=1:=by kernel_rfl
theorem oc4:Tryz.prog.cellsOf 4=1:=by kernel_rfl
theorem oc9:Tryz.prog.cellsOf 9=1:=by kernel_rfl
theorem yuG:Tryz.prog.cellsOf 56=2:=by kernel_rfl
theorem yvm:Tryz.prog.cellsOf 22=1:=by kernel_rfl
theorem ys6:Tryz.prog.cellsOf 24=3:=by kernel_rfl
theorem yvn:Tryz.prog.cellsOf 25=1:=by kernel_rfl
theorem yvo:Tryz.prog.cellsOf 26=1:=by kernel_rfl
theorem yvp:Tryz.prog.cellsOf 27=1:=by kernel_rfl
theorem ys7:Tryz.prog.cellsOf 29=6:=by kernel_rfl
theorem yuF:Tryz.prog.cellsOf 31=26:=by kernel_rfl
theorem ob9:Tryz.prog.bytesOf 9=16:=by kernel_rfl
theorem yvk:Tryz.prog.bytesOf 56=24:=by kernel_rfl
theorem yvi:Tryz.prog.bytesOf 24=32:=by kernel_rfl
theorem yvj:Tryz.prog.bytesOf 29=80:=by kernel_rfl
theorem ycs {H:Type} {P:Program} {e:TypeId}:∀ {l:List (DataW H)} {d:DataW H} {n:Nat},d ∈ l→n ∈ d.weights P e→n ∈ DataW.weightsAll P e l
 | [],_,_,h,_=>by cases h
 | x::r,d,n,h,hn=>by
  simp only [DataW.weightsAll,List.mem_append]
  rcases List.mem_cons.1 h with rfl|h
  ·exact Or.inl hn
  ·exact Or.inr (ycs h hn)
theorem yvd {α:Type} {l:List α} (h:l.length=2):∃ a b,l=[a,b]:=by
 match l,h with
 | [a,b],_=>exact ⟨a,b,rfl⟩
theorem yve {α:Type} {l:List α} (h:l.length=3):∃ a b c,l=[a,b,c]:=by
 match l,h with
 | [a,b,c],_=>exact ⟨a,b,c,rfl⟩
theorem yvf {α:Type} {l:List α} (h:l.length=6):∃ a b c d e f,l=[a,b,c,d,e,f]:=by
 match l,h with
 | [a,b,c,d,e,f],_=>exact ⟨a,b,c,d,e,f,rfl⟩
theorem yqu {α:Type} {l:List α} {n:Nat} (h:l.length=n+13):∃ a0 a1 a2 a3 a4 a5 a6 a7 a8 a9 a10 a11 a12 r,l=a0::a1::a2::a3::a4::a5::a6::a7::a8::a9::a10::a11::a12::r∧r.length=n:=by
 match l,h with
 | a0::a1::a2::a3::a4::a5::a6::a7::a8::a9::a10::a11::a12::r,h=>exact ⟨a0,a1,a2,a3,a4,a5,a6,a7,a8,a9,a10,a11,a12,r,rfl,by simpa using h⟩
theorem yvb {α:Type} {l:List α} (h:l.length=0):l=[]:=List.length_eq_zero_iff.1 h
theorem yvc {α:Type} {l:List α} (h:l.length=1):∃ a,l=[a]:=List.length_eq_one_iff.1 h
theorem ygu {α:Type} (C:α→List Value) {m:Nat} (hC:∀ y,(C y).length=m):∀ (L:List α) (j:Nat) (x:Value),(L.flatMap C)[j]?=some x→∃ i k y,k < m∧L[i]?=some y∧j=i*m+k∧(C y)[k]?=some x
 | [],j,x,h=>by simp at h
 | y::r,j,x,h=>by
  rw [List.flatMap_cons] at h
  by_cases hj:j < m
  ·rw [List.getElem?_append_left (by rw [hC];exact hj)] at h
   exact ⟨0,j,y,hj,rfl,by omega,h⟩
  ·rw [List.getElem?_append_right (by rw [hC];omega),hC] at h
   obtain ⟨i,k,z,hk,hz,e,hx⟩:=ygu C hC r _ x h
   exact ⟨i+1,k,z,hk,by simpa using hz,by rw [Nat.add_mul];omega,hx⟩
theorem ypQ {α:Type} (F:Nat→α) (C:α→List Value) {m l j:Nat} {x:Value} (hC:∀ y,(C y).length=m) (hj:(((List.range l).map F).flatMap C)[j]?=some x):∃ i k,k < m∧i < l∧j=i*m+k∧(C (F i))[k]?=some x:=by
 obtain ⟨i,k,y,hk,hy,e,hx⟩:=ygu C hC _ _ _ hj
 rw [List.getElem?_map] at hy
 obtain ⟨i',h1,h2⟩:=Option.map_eq_some_iff.1 hy
 obtain ⟨h3,h4⟩:=List.getElem?_eq_some_iff.1 h1
 simp at h3 h4
 subst h4 h2
 exact ⟨_,k,hk,h3,e,hx⟩
section
variable {H:Type} {enc:TypeId×Value→H} {W:World} {spare:Nat→Bool} {held:Bool}
theorem fld {n k off:Nat} {t:TypeId} {l cs:List Value} {y:Option (DataW H×List MemPlace)} (hk:Tryz.prog.cellsOf t=k) (h:DataW.trod enc Tryz.prog W 0 spare held n t ((l.drop off).take (Tryz.prog.cellsOf t))=y) (hc:(l.drop off).take k=cs):DataW.trod enc Tryz.prog W 0 spare held n t cs=y:=by
 rw [← hc,← hk];exact h
theorem yeg {fuel:Nat} {v:Value} {x:DataW H×List MemPlace} (h:DataW.trod enc Tryz.prog W 0 spare held fuel 3 [v]=some x):∃ k:Int,v=.int .i64 k:=by
 obtain ⟨k,e0,_,_⟩:=DataW.trod_int Tryz.underlying3 h
 simp at e0
 exact ⟨k,e0⟩
theorem ydC {fuel:Nat} {v:Value} {x:DataW H×List MemPlace} (h:DataW.trod enc Tryz.prog W 0 spare held fuel 9 [v]=some x):∃ s:List UInt8,v=.string ⟨s.toArray⟩∧x.1=.lit (.string s):=by
 obtain ⟨s,e0,rfl,_⟩:=DataW.trod_string Tryz.underlying9 h
 simp at e0
 exact ⟨s.data.toList,by rw [e0],rfl⟩
theorem ygb {s:List UInt8} (h:∀ n ∈ (DataW.lit (.string s):DataW H).weights Tryz.prog 9,n≤reachBytes):s.length≤140737488355328:=by
 have hr:=reachBytes_lt
 have:=h s.length (by simp [DataW.weights])
 omega
theorem yhP {fuel:Nat} {cs:List Value} {x:DataW H×List MemPlace}
  (h:DataW.trod enc Tryz.prog W 0 spare held fuel 24 cs=some x):∃ y:Vl,cs=vlC y∧x.1=.agg [.lit (.int .i64 y.k),.lit (.int .i64 y.n),.lit (.string y.s)]:=by
 obtain ⟨y0,y1,y2,n,rfl,hl,h0,h1,h2⟩:=Deep.trod_struct3 Tryz.underlying24 h
 obtain ⟨c0,c1,c2,rfl⟩:=yve (hl.trans ys6)
 have g0:=fld (cs:=[c0]) oc3 h0 rfl
 have g1:=fld (cs:=[c1]) oc3 h1 rfl
 have g2:=fld (cs:=[c2]) oc9 h2 rfl
 obtain ⟨k,e0,rfl,_⟩:=DataW.trod_int Tryz.underlying3 g0
 obtain ⟨a,e1,rfl,_⟩:=DataW.trod_int Tryz.underlying3 g1
 obtain ⟨s,e2,rfl,_⟩:=DataW.trod_string Tryz.underlying9 g2
 simp at e0 e1 e2
 subst e0 e1 e2
 exact ⟨⟨k,a,s.data.toList⟩,rfl,rfl⟩
theorem yif {y:Vl} {d:DataW H} (hd:d=.agg [.lit (.int .i64 y.k),.lit (.int .i64 y.n),.lit (.string y.s)]) (h:∀ n ∈ d.weights Tryz.prog 24,n≤reachBytes):y.s.length≤140737488355328:=by
 have hr:=reachBytes_lt
 have:=h y.s.length (by rw [hd];simp [DataW.weights,DataW.weightsEach,Tryz.underlying24])
 omega
theorem yqD {fuel:Nat} {cs:List Value} {x:DataW H×List MemPlace}
  (h:DataW.trod enc Tryz.prog W 0 spare held fuel 56 cs=some x):∃ y:Cl,cs=clC y∧x.1=.agg [.lit (.string y.name),.lit (.int .i64 y.ty)]:=by
 obtain ⟨y0,y1,n,rfl,hl,h0,h1⟩:=ChangeShapes.trod_struct2 Tryz.underlying56 h
 obtain ⟨c0,c1,rfl⟩:=yvd (hl.trans yuG)
 have g0:=fld (cs:=[c0]) oc9 h0 rfl
 have g1:=fld (cs:=[c1]) oc3 h1 rfl
 obtain ⟨s,e0,rfl,_⟩:=DataW.trod_string Tryz.underlying9 g0
 obtain ⟨a,e1,rfl,_⟩:=DataW.trod_int Tryz.underlying3 g1
 simp at e0 e1
 subst e0 e1
 exact ⟨⟨s.data.toList,a⟩,rfl,rfl⟩
theorem ypC {y:Cl} {d:DataW H} (hd:d=.agg [.lit (.string y.name),.lit (.int .i64 y.ty)]) (h:∀ n ∈ d.weights Tryz.prog 56,n≤reachBytes):y.name.length≤140737488355328:=by
 have hr:=reachBytes_lt
 have:=h y.name.length (by rw [hd];simp [DataW.weights,DataW.weightsEach,Tryz.underlying56])
 omega
theorem yfW {α:Type} [Inhabited α] {t e:TypeId} {fuel:Nat} {v:Value} {x:DataW H×List MemPlace} (C:α→List Value) (D0:α→DataW H) (m:Nat) (bs:Nat) (hm:0 < m) (hbs:0 < bs) (hC:∀ y,(C y).length=m)
  (ht:Tryz.prog.underlying t=some (.slice e)) (hc:Tryz.prog.cellsOf e=m) (hb:Tryz.prog.bytesOf e=bs)
  (one:∀ {fuel:Nat} {cs:List Value} {x:DataW H×List MemPlace},DataW.trod enc Tryz.prog W 0 spare held fuel e cs=some x→∃ y:α,cs=C y∧x.1=D0 y)
  (h:DataW.trod enc Tryz.prog W 0 spare held fuel t [v]=some x) (hsz:∀ n ∈ x.1.weights Tryz.prog t,n≤reachBytes) :
  ∃ L:List α,RowAt 0 W v L.length (L.flatMap C)∧L.length≤1000000000000000∧∀ y ∈ L,∀ n ∈ (D0 y).weights Tryz.prog e,n≤reachBytes:=by
 have hr:=reachBytes_lt
 rcases Deep.open_slice ht h with ⟨hcs,_⟩|⟨a,l,c,m',n,D,Pl,hcs,hb',hl,hm',hmm,hx,hel⟩
 ·simp at hcs
  subst hcs
  exact ⟨[],.inl ⟨rfl,_,_,rfl⟩,Nat.zero_le _,(by intro y hy;cases hy)⟩
 ·simp at hcs
  subst hcs
  have hlm:l≤m':=by rw [hmm];split <;> omega
  have hex:∀ i,i < l→∃ y:α,W.cells? 0 (a.add (i*m)) m=some (C y)∧D i=D0 y:=by
   intro i hi
   obtain ⟨cs',h1,h2⟩:=hel i (by omega)
   rw [hc] at h1
   obtain ⟨y,rfl,hy⟩:=one h2
   exact ⟨y,h1,hy⟩
  obtain ⟨F,hF⟩:=Deep.choose_lt (α:=α) hex
  have hw1:(l+(m' - l))*bs≤reachBytes:=by
   have:=hsz ((l+(m' - l))*bs) (by rw [hx];simp [DataW.weights,ht,hb])
   exact this
  have hl0:l≤reachBytes:=by
   have:l*1≤(l+(m' - l))*bs:=Nat.mul_le_mul (by omega) hbs
   omega
  have hll:((List.range l).map F).length=l:=by simp
  refine ⟨(List.range l).map F, ?_,by rw [hll];omega, ?_⟩
  ·rw [hll]
   rcases Nat.eq_zero_or_pos l with h0|h0
   ·subst h0;exact .inl ⟨rfl,_,_,rfl⟩
   ·right
    obtain ⟨b,off,spot⟩:=a
    have add_plain:∀ j,(⟨b,off,none⟩:Addr).add j=⟨b,off+j,none⟩:=fun j=>Go.WideShapes.add_plain b off j
    have hspot:spot=none:=by
     have:=(World.cells?_some (hF 0 h0).1).2.2 0 (by omega)
     simp only [Nat.zero_mul] at this
     have hne:(C (F 0))[0]?≠none:=by
      have:=hC (F 0)
      intro hh
      have:=List.getElem?_eq_none_iff.1 hh
      omega
     obtain ⟨q,hq⟩:=Option.ne_none_iff_exists'.1 hne
     rw [hq] at this
     have:=World.cell?_spot this
     simpa [Addr.add] using this
    subst hspot
    refine ⟨b,off,c,rfl,Nat.zero_le _, ?_, ?_⟩
    ·have:=World.cells?_block (hF 0 h0).1 (by omega)
     simpa [Addr.add] using this
    ·intro j x hj
     obtain ⟨i,k,hk,hi,e1,e2⟩:∃ i k,k < m∧i < l∧j=i*m+k∧(C (F i))[k]?=some x:=ypQ F C hC hj
     have h3:=(World.cells?_some (hF i hi).1).2.2 k (by omega)
     rw [add_plain,Go.WideShapes.add_plain,e2] at h3
     rw [e1,← Nat.add_assoc]
     exact h3
  ·intro y hy n hn
   obtain ⟨i,hi,rfl⟩:=List.mem_map.1 hy
   have hi':i < l:=by simpa using hi
   apply hsz
   rw [hx]
   simp only [DataW.weights,ht,List.mem_cons,List.mem_append]
   right;left
   refine ycs (List.mem_map.2 ⟨i,hi,rfl⟩) ?_
   rw [(hF i hi').2]
   exact hn
theorem yqE {fuel:Nat} {cs:List Value} {x:DataW H×List MemPlace}
  (h:DataW.trod enc Tryz.prog W 0 spare held fuel 9 cs=some x):∃ y:List UInt8,cs=stC y∧x.1=.lit (.string y):=by
 obtain ⟨s,e0,rfl,_⟩:=DataW.trod_string Tryz.underlying9 h
 exact ⟨s.data.toList,e0,rfl⟩
theorem ylY (N:Nat):∀ {fuel:Nat} {cs:List Value} {x:DataW H×List MemPlace},SizeOf.sizeOf x.1≤N→DataW.trod enc Tryz.prog W 0 spare held fuel 29 cs=some x→(∀ n ∈ x.1.weights Tryz.prog 29,n≤reachBytes) →
  ∃ (y:Ex) (a:Value),cs=[.int .i64 y.k,.int .i64 y.v.k,.int .i64 y.v.n,.string ⟨y.v.s.toArray⟩,.string ⟨y.nm.toArray⟩,a]∧ExAt 0 W (exV y.k y.v y.nm a) y∧Fit y:=by
 induction N with
 | zero =>
  intro fuel cs x hN h hsz
  obtain ⟨y0,y1,y2,y3,n,rfl,hl,h0,h1,h2,h3⟩:=Joins.trod_struct4 Tryz.underlying29 h
  simp at hN
 | succ N ih =>
  intro fuel cs x hN h hsz
  have hr:=reachBytes_lt
  obtain ⟨y0,y1,y2,y3,n,rfl,hl,h0,h1,h2,h3⟩:=Joins.trod_struct4 Tryz.underlying29 h
  obtain ⟨c0,c1,c2,c3,c4,c5,rfl⟩:=yvf (hl.trans ys7)
  ·replace h0:=fld (cs:=[c0]) oc3 h0 rfl
   replace h1:=fld (cs:=[c1,c2,c3]) ys6 h1 rfl
   replace h2:=fld (cs:=[c4]) oc9 h2 rfl
   replace h3:=fld (cs:=[c5]) yvp h3 rfl
   obtain ⟨k,rfl⟩:=yeg h0
   obtain ⟨v,hv,dv⟩:=yhP h1
   obtain ⟨s,rfl,ds⟩:=ydC h2
   simp only [vlC,List.cons.injEq,and_true] at hv
   obtain ⟨rfl,rfl,rfl⟩:=hv
   have w1:∀ n ∈ y1.1.weights Tryz.prog 24,n≤reachBytes:=fun n hn=>hsz n (by simp [DataW.weights,DataW.weightsEach,Tryz.underlying29,hn])
   have w2:∀ n ∈ y2.1.weights Tryz.prog 9,n≤reachBytes:=fun n hn=>hsz n (by simp [DataW.weights,DataW.weightsEach,Tryz.underlying29,hn])
   have w3:∀ n ∈ y3.1.weights Tryz.prog 27,n≤reachBytes:=fun n hn=>hsz n (by simp [DataW.weights,DataW.weightsEach,Tryz.underlying29,hn])
   have z1:=yif dv w1
   have z2:=ygb (by rw [← ds];exact w2)
   have hN':SizeOf.sizeOf y3.1≤N:=by simp at hN;omega
   rcases Deep.open_slice Tryz.underlying27 h3 with ⟨hcs,_⟩|⟨a,l,c,m',n',D,Pl,hcs,hb',hl,hm',hmm,hx,hel⟩
   ·simp at hcs
    subst hcs
    exact ⟨.mk k v s [],_,rfl,.nil k v s none 0 (fun _=>rfl),.mk k v s [] z1 z2 (by simp) (by intro y hy;cases hy)⟩
   ·simp at hcs
    subst hcs
    have hlm:l≤m':=by rw [hmm];split <;> omega
    have hw1:(l+(m' - l))*80≤reachBytes:=by
     have:=w3 ((l+(m' - l))*80) (by rw [hx];simp [DataW.weights,Tryz.underlying27,yvj])
     exact this
    have hex:∀ i,i < l→∃ y:Ex×Value,W.cells? 0 (a.add (i*6)) 6=some [.int .i64 y.1.k,.int .i64 y.1.v.k,.int .i64 y.1.v.n,.string ⟨y.1.v.s.toArray⟩,.string ⟨y.1.nm.toArray⟩,y.2]∧ExAt 0 W (exV y.1.k y.1.v y.1.nm y.2) y.1∧Fit y.1:=by
     intro i hi
     obtain ⟨cs',g1,g2⟩:=hel i (by omega)
     rw [ys7] at g1
     have hmem:D i ∈ (List.range l).map D:=List.mem_map.2 ⟨i,by simpa using hi,rfl⟩
     have hlt:SizeOf.sizeOf (D i)≤N:=by
      have h5:=List.sizeOf_lt_of_mem hmem
      rw [hx] at hN'
      simp only [DataW.slice.sizeOf_spec] at hN'
      omega
     obtain ⟨y,b,rfl,hy1,hy2⟩:=ih (x:=(D i,Pl i)) hlt g2 (fun n hn=>w3 n (by
      rw [hx]
      simp only [DataW.weights,Tryz.underlying27,List.mem_cons,List.mem_append]
      right;left
      exact ycs hmem hn))
     exact ⟨(y,b),g1,hy1,hy2⟩
    have inh:Inhabited (Ex×Value):=⟨(.mk 0 ⟨0,0,[]⟩ [] [],.bool true)⟩
    obtain ⟨F,hF⟩:=Deep.choose_lt (α:=Ex×Value) hex
    have hll:((List.range l).map fun i=>(F i).1).length=l:=by simp
    have hget:∀ i y,((List.range l).map fun i=>(F i).1)[i]?=some y→i < l∧y=(F i).1:=by
     intro i y h
     rw [List.getElem?_map] at h
     obtain ⟨j,h1,h2⟩:=Option.map_eq_some_iff.1 h
     obtain ⟨h3,h4⟩:=List.getElem?_eq_some_iff.1 h1
     simp at h3 h4
     subst h4
     exact ⟨h3,h2.symm⟩
    rcases Nat.eq_zero_or_pos l with h0|h0
    ·subst h0
     exact ⟨.mk k v s [],_,rfl,.nil k v s (some a) c (fun e=>by cases e),.mk k v s [] z1 z2 (by simp) (by intro y hy;cases hy)⟩
    ·obtain ⟨b,off,spot⟩:=a
     have add_plain:∀ j,(⟨b,off,none⟩:Addr).add j=⟨b,off+j,none⟩:=fun j=>Go.WideShapes.add_plain b off j
     have hspot:spot=none:=by
      have:=(World.cells?_some (hF 0 h0).1).2.2 0 (by omega)
      simp [Addr.add] at this
      exact World.cell?_spot this
     subst hspot
     refine ⟨.mk k v s ((List.range l).map fun i=>(F i).1),.slice (some ⟨b,off,none⟩) l c,rfl, ?_, ?_⟩
     ·have:=ExAt.args (B:=0) (w:=W) k v s b off c ((List.range l).map fun i=>(F i).1) (fun i=>exV (F i).1.k (F i).1.v (F i).1.nm (F i).2) (by intro hh;have:=congrArg List.length hh;rw [hll] at this;simp at this;omega) (Nat.zero_le _)
       (by have:=World.cells?_block (hF 0 h0).1 (by omega);simpa [Addr.add] using this) ?_ ?_
      ·rw [hll] at this;exact this
      ·intro i hi
       rw [hll] at hi
       have hc:=(World.cells?_some (hF i hi).1).2.2
       have e0:=hc 0 (by omega)
       have e1:=hc 1 (by omega)
       have e2:=hc 2 (by omega)
       have e3:=hc 3 (by omega)
       have e4:=hc 4 (by omega)
       have e5:=hc 5 (by omega)
       rw [add_plain,Go.WideShapes.add_plain,Nat.mul_comm i 6] at e0 e1 e2 e3 e4 e5
       exact ⟨_,_,_,_,rfl,e0,e1,e2,e3,e4,e5⟩
      ·intro i y hy
       obtain ⟨hi,rfl⟩:=hget i y hy
       exact (hF i hi).2.1
     ·refine .mk k v s _ z1 z2 ?_ ?_
      ·rw [hll]
       have e1:reachBytes=140737488351232:=by decide
       have:l*80≤(l+(m' - l))*80:=Nat.mul_le_mul_right _ (by omega)
       omega
      ·intro y hy
       obtain ⟨i,hi,rfl⟩:=List.mem_map.1 hy
       exact (hF i (by simpa using hi)).2.2
theorem ylX {b0:Nat} {v:Value} {d:DataW H} {p:List MemPlace} (hv:Value.okWide Tryz.prog W .any b0 31 v) (h:DataW.Trod enc Tryz.prog W 0 spare held 31 v d p) (hsz:∀ n ∈ d.weights Tryz.prog 31,n≤reachBytes) :
  ∃ c:Cm,ys9 0 W v c∧CmFit c:=by
 obtain ⟨cs,rfl,hn⟩:=WideShapes.okWide_struct Tryz.underlying31 hv
 rw [yuF] at hn
 obtain ⟨fuel,hf⟩:=h
 obtain ⟨xs,n,_,hx,hl,hlen,hF⟩:=DataW.trod_struct Tryz.underlying31 hf
 rw [yuF] at hl
 simp only [Value.cells] at hF hl
 generalize hcs:cs.toList=l at hF hl
 obtain rfl:cs=l.toArray:=by rw [← hcs]
 clear hcs hf hn
 obtain ⟨y0,y1,y2,y3,y4,y5,y6,y7,y8,y9,y10,y11,y12,xr,rfl,hxr⟩:=yqu (n:=1) hlen
 obtain ⟨y13,rfl⟩:=yvc hxr
 obtain ⟨c0,c1,c2,c3,c4,c5,c6,c7,c8,c9,c10,c11,c12,lr,rfl,hlr⟩:=yqu (n:=13) hl
 obtain ⟨c13,c14,c15,c16,c17,c18,c19,c20,c21,c22,c23,c24,c25,lr',rfl,hlr'⟩:=yqu (n:=0) hlr
 obtain rfl:=yvb hlr'
 ·have r0:=hF 0 _ rfl
  have g0:DataW.trod enc Tryz.prog W 0 spare held n 3 [c0]=some y0:=fld oc3 r0 rfl
  have r1:=hF 1 _ rfl
  have g1:DataW.trod enc Tryz.prog W 0 spare held n 9 [c1]=some y1:=fld oc9 r1 rfl
  have r2:=hF 2 _ rfl
  have g2:DataW.trod enc Tryz.prog W 0 spare held n 9 [c2]=some y2:=fld oc9 r2 rfl
  have r3:=hF 3 _ rfl
  have g3:DataW.trod enc Tryz.prog W 0 spare held n 9 [c3]=some y3:=fld oc9 r3 rfl
  have r4:=hF 4 _ rfl
  have g4:DataW.trod enc Tryz.prog W 0 spare held n 22 [c4]=some y4:=fld yvm r4 rfl
  have r5:=hF 5 _ rfl
  have g5:DataW.trod enc Tryz.prog W 0 spare held n 3 [c5]=some y5:=fld oc3 r5 rfl
  have r6:=hF 6 _ rfl
  have g6:DataW.trod enc Tryz.prog W 0 spare held n 24 [c6,c7,c8]=some y6:=fld ys6 r6 rfl
  have r7:=hF 7 _ rfl
  have g7:DataW.trod enc Tryz.prog W 0 spare held n 25 [c9]=some y7:=fld yvn r7 rfl
  have r8:=hF 8 _ rfl
  have g8:DataW.trod enc Tryz.prog W 0 spare held n 26 [c10]=some y8:=fld yvo r8 rfl
  have r9:=hF 9 _ rfl
  have g9:DataW.trod enc Tryz.prog W 0 spare held n 29 [c11,c12,c13,c14,c15,c16]=some y9:=fld ys7 r9 rfl
  have r10:=hF 10 _ rfl
  have g10:DataW.trod enc Tryz.prog W 0 spare held n 4 [c17]=some y10:=fld oc4 r10 rfl
  have r11:=hF 11 _ rfl
  have g11:DataW.trod enc Tryz.prog W 0 spare held n 29 [c18,c19,c20,c21,c22,c23]=some y11:=fld ys7 r11 rfl
  have r12:=hF 12 _ rfl
  have g12:DataW.trod enc Tryz.prog W 0 spare held n 9 [c24]=some y12:=fld oc9 r12 rfl
  have r13:=hF 13 _ rfl
  have g13:DataW.trod enc Tryz.prog W 0 spare held n 3 [c25]=some y13:=fld oc3 r13 rfl
  simp only [Prod.mk.injEq] at hx
  have hd:d=.agg [y0.1,y1.1,y2.1,y3.1,y4.1,y5.1,y6.1,y7.1,y8.1,y9.1,y10.1,y11.1,y12.1,y13.1]:=hx.1
  subst hd
  have W1:∀ n ∈ y1.1.weights Tryz.prog 9,n≤reachBytes:=fun n hn=>hsz n (by simp [DataW.weights,DataW.weightsEach,Tryz.underlying31,hn])
  have W2:∀ n ∈ y2.1.weights Tryz.prog 9,n≤reachBytes:=fun n hn=>hsz n (by simp [DataW.weights,DataW.weightsEach,Tryz.underlying31,hn])
  have W3:∀ n ∈ y3.1.weights Tryz.prog 9,n≤reachBytes:=fun n hn=>hsz n (by simp [DataW.weights,DataW.weightsEach,Tryz.underlying31,hn])
  have W4:∀ n ∈ y4.1.weights Tryz.prog 22,n≤reachBytes:=fun n hn=>hsz n (by simp [DataW.weights,DataW.weightsEach,Tryz.underlying31,hn])
  have W6:∀ n ∈ y6.1.weights Tryz.prog 24,n≤reachBytes:=fun n hn=>hsz n (by simp [DataW.weights,DataW.weightsEach,Tryz.underlying31,hn])
  have W7:∀ n ∈ y7.1.weights Tryz.prog 25,n≤reachBytes:=fun n hn=>hsz n (by simp [DataW.weights,DataW.weightsEach,Tryz.underlying31,hn])
  have W8:∀ n ∈ y8.1.weights Tryz.prog 26,n≤reachBytes:=fun n hn=>hsz n (by simp [DataW.weights,DataW.weightsEach,Tryz.underlying31,hn])
  have W9:∀ n ∈ y9.1.weights Tryz.prog 29,n≤reachBytes:=fun n hn=>hsz n (by simp [DataW.weights,DataW.weightsEach,Tryz.underlying31,hn])
  have W11:∀ n ∈ y11.1.weights Tryz.prog 29,n≤reachBytes:=fun n hn=>hsz n (by simp [DataW.weights,DataW.weightsEach,Tryz.underlying31,hn])
  have W12:∀ n ∈ y12.1.weights Tryz.prog 9,n≤reachBytes:=fun n hn=>hsz n (by simp [DataW.weights,DataW.weightsEach,Tryz.underlying31,hn])
  obtain ⟨k,rfl⟩:=yeg g0
  obtain ⟨s1,rfl,d1⟩:=ydC g1
  obtain ⟨s2,rfl,d2⟩:=ydC g2
  obtain ⟨s3,rfl,d3⟩:=ydC g3
  obtain ⟨ty,rfl⟩:=yeg g5
  obtain ⟨vl,hvl,dvl⟩:=yhP g6
  simp only [vlC,List.cons.injEq,and_true] at hvl
  obtain ⟨rfl,rfl,rfl⟩:=hvl
  obtain ⟨b,rfl⟩:∃ b,c17=.bool b:=by
   obtain ⟨b,e0,_,_⟩:=DataW.trod_bool Tryz.underlying4 g10
   simp at e0
   exact ⟨b,e0⟩
  obtain ⟨s12,rfl,d12⟩:=ydC g12
  obtain ⟨lm,rfl⟩:=yeg g13
  have i1:Inhabited Cl:=⟨⟨[],0⟩⟩
  have i2:Inhabited Vl:=⟨⟨0,0,[]⟩⟩
  obtain ⟨L4,R4,n4,z4⟩:=yfW clC (fun y=>.agg [.lit (.string y.name),.lit (.int .i64 y.ty)]) 2 24 (by decide) (by decide) (fun _=>rfl) Tryz.underlying22 yuG yvk yqD g4 W4
  obtain ⟨L7,R7,n7,z7⟩:=yfW vlC (fun y=>.agg [.lit (.int .i64 y.k),.lit (.int .i64 y.n),.lit (.string y.s)]) 3 32 (by decide) (by decide) (fun _=>rfl) Tryz.underlying25 ys6 yvi yhP g7 W7
  obtain ⟨L8,R8,n8,z8⟩:=yfW stC (fun y=>.lit (.string y)) 1 16 (by decide) (by decide) (fun _=>rfl) Tryz.underlying26 oc9 ob9 yqE g8 W8
  obtain ⟨x9,a9,e9,f9,p9⟩:=ylY _ (Nat.le_refl _) g9 W9
  obtain ⟨x11,a11,e11,f11,p11⟩:=ylY _ (Nat.le_refl _) g11 W11
  simp only [List.cons.injEq,and_true] at e9 e11
  obtain ⟨rfl,rfl,rfl,rfl,rfl,rfl⟩:=e9
  obtain ⟨rfl,rfl,rfl,rfl,rfl,rfl⟩:=e11
  refine ⟨{ kind:=k,name:=s1,other:=s2,column:=s3,cols:=L4,ty:=ty,val:=vl,vals:=L7,fields:=L8,expr:=x9,all:=b,wh:=x11,order:=s12,limit:=lm },⟨c4,c9,c10,_,_,rfl,⟨R4,R7,R8,f9,f11⟩⟩, ?_⟩
  have q:∀ {s:List UInt8} {d:DataW H},d=.lit (.string s)→(∀ n ∈ d.weights Tryz.prog 9,n≤reachBytes)→s.length≤140737488355328:=fun e h=>ygb (by rw [← e];exact h)
  exact { name:=q d1 W1,other:=q d2 W2,column:=q d3 W3,order:=q d12 W12,val:=yif dvl W6,cols:=n4,vals:=n7,fields:=n8,colsN:=fun x hx=>ypC rfl (z4 x hx),valsN:=fun x hx=>yif rfl (z7 x hx),fieldsN:=fun x hx=>ygb (z8 x hx),expr:=p9,wh:=p11 }
end
end Go.Proofs.YtkpeklealgicpabGreatDoor
namespace Go.Proofs.YtkpeklealgicpabGreatDoor
open Go.ChangeShapes Go.WideShapes Go.ChangeAt Go.RowKit

theorem Tryz.own : ownKnob Tryz.prog.godebug = none := by kernel_rfl
theorem Tryz.laidOut : laidOutB Tryz.prog = true := by kernel_rfl
theorem Tryz.gPowType : (Tryz.prog.globals[1]?).map (·.type) = some 174 := by kernel_rfl
theorem Tryz.c174 : Tryz.prog.cellsOf 174 = 20 := by kernel_rfl
theorem Tryz.c159 : Tryz.prog.cellsOf 159 = 1 := by kernel_rfl
theorem yop : (Rows.laid_internal_strconv_uint64pow10 : DataW Unit) = Lib.tabData .u64 Lib.pow10Tab := by rfl

theorem Tryz.six : Tryz.prog.globals.size = 6 := by kernel_rfl
theorem yqA {W : World} (h : W.ShapedOpen Tryz.prog) : ∃ m, W.cell? ⟨0, 0, none⟩ = some (.int .i64 m) :=
  Go.Proofs.cell_of_shapedOpen_int (t := 3) (zero := #[.int .i64 0]) h (by rw [Tryz.six]; decide) (by kernel_rfl) rfl (by kernel_rfl) (by kernel_rfl) Tryz.underlying3
theorem yqw {W : World} (h : W.ShapedOpen Tryz.prog) : 6 ≤ W.heap.size := by
  have hz : (((begin Tryz.prog (fun _ _ => 0) default).world.heap[5]?).bind Obj.row?).isSome = true := by kernel_rfl
  obtain ⟨⟨z, t⟩, hz⟩ := Option.isSome_iff_exists.1 hz
  obtain ⟨cs, hh, -⟩ := h.1 5 z t (by rw [Tryz.six]; decide) hz
  have := (Array.getElem?_eq_some_iff.1 hh).1
  omega

end Go.Proofs.YtkpeklealgicpabGreatDoor
namespace Go.Proofs.YtkpeklealgicpabGreatDoor
open Go.ChangeShapes Go.WideShapes Go.ChangeAt Go.RowKit

theorem yn8 {W : World} (h : laidMetH Tryz.prog Rows.showShowsRow.laid W) (hs : W.ShapedOpen Tryz.prog) : LaidIf False W := by
  rw [MakeChecks.laidMetH_plain _ _ _ (by kernel_rfl)] at h
  have h3 : laidMet Tryz.prog (("internal/strconv.uint64pow10", Rows.laid_internal_strconv_uint64pow10) :: []) W := h.tail.tail
  rw [yop] at h3
  exact ⟨Lib.tabIs_of_head Tryz.gPow Tryz.gPowType Tryz.underlying174 Tryz.underlying159 Tryz.c159 Tryz.c174 h3, False.elim, False.elim, yqA hs, yqw hs⟩

theorem ykE (os : Os) (args : Array Value) : laidMetH Tryz.prog Rows.showShowsRow.laid ((World.doorLaid Tryz.prog 200 os).forCall (fun _ _ => 0) ⟨#[], args, []⟩).memory := by
  rw [MakeChecks.laidMetH_plain _ _ _ (by kernel_rfl)]
  exact laidMet_of_run' 8 (by kernel_rfl) (by kernel_rfl)

end Go.Proofs.YtkpeklealgicpabGreatDoor
