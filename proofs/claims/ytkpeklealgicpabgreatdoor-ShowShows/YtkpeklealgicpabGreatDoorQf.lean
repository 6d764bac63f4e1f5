/-
  CheckCmd of the document: Where.
  CheckCmd of the document: the region that draws.
  CheckCmd of the document, statement by statement, on any frame.
  The document's SameCmd: of two commands that differ ahead of their lists.
  The document's SameCmd: of two commands that may differ in their lists alone.
  slices.Equal, of lists of columns, of values, of strings.
  slices.Equal, of lists of strings.
  The program's sameExpr, of any expressions in memory.
-/
import Derived.Test.YtkpeklealgicpabGreatDoorQa
import Derived.Test.YtkpeklealgicpabGreatDoorQb
import Derived.Test.YtkpeklealgicpabGreatDoorQc
import Derived.Test.YtkpeklealgicpabGreatDoorQd
import Derived.Test.YtkpeklealgicpabGreatDoorQe

set_option maxRecDepth 100000
set_option maxHeartbeats 8000000
namespace Go.Proofs.YtkpeklealgicpabGreatDoor
open Go.RowKit
noncomputable def k27_R:Array Oper:=((Tryz.f13.body).bind (yas 27)).getD #[]
def ytV (c:Cm) (b:Nat) (j:Nat):Value:=([.int .i64 c.kind,.bool (yaW c.kind 11 13),.bool (yaW c.kind 11 13),gw ((yaW c.kind 11 13) == true) (.pointer (some ⟨b,17,none⟩)),gw ((yaW c.kind 11 13) == true) (.bool c.all),gw ((yaW c.kind 11 13) == true) (.bool (!c.all)),.bool ((yaW c.kind 11 13)&&(!c.all))]:List Value).getD j undef
def k27_d:List (Option Tmp):=[some 242,some 243,some 244,some 245,some 246,some 247,some 248]
theorem ylF:k27_d.Nodup:=by unfold k27_d;decide
theorem ysh {c:Cm} {a1 a2 a3 a4 a5:Option Addr} {c1 c2 c3 c4 c5:Nat} {b:Nat} {S:World→Prop} {a0:Act} {Q:Exit→Act→World→Prop} {w:World} (h1:a0.tmps[1]?=some (.pointer (some ⟨b,0,none⟩))) (h3:a0.tmps[3]?=some (.int .i64 c.kind)) (hcell:∀ W,S W→∀ o x,(cmL c (.slice a1 c.cols.length c1) (.slice a2 c.vals.length c2) (.slice a3 c.fields.length c3) (.slice a4 c.expr.args.length c4) (.slice a5 c.wh.args.length c5))[o]?=some x→W.cell? ⟨b,o,none⟩=some x) (q243:∀ W,S W→Calls Tryz.prog 31 #[.int .i64 c.kind,.int .i64 11,.int .i64 13] W fun e w'=>e=.returned (.bool (yaW c.kind 11 13))∧S w') (ha:a0.tmps.size=272) (hS:S w)
  (hq:∀ a' w',S w'→a'.defers=a0.defers→a'.tmps.size=272→(∀ j d,k27_d[j]?=some (some d)→a'.tmps[d]?=some (ytV c b j))→(∀ d,some d ∉ k27_d→a'.tmps[d]?=a0.tmps[d]?)→Q .normal a' w'):(Code.region 27 k27_R false).wp Tryz.prog Q a0 w:=by
 have hz:k27_R.size=7:=by kernel_rfl
 refine yaG (m:=272) hz (by kernel_rfl) ylF (by kernel_rfl) ha ?_ hS hq
 refine us ?_ (yaO hz (by decide) (by kernel_rfl) fun _ _ s _=>yav (G:=true) (by kernel_rfl) (s.u 2 244 (by kernel_rfl)) (s.u 5 247 (by kernel_rfl)) rfl rfl)
 refine us ?_ (yaH true 2 244 true hz (by decide) (by kernel_rfl) rfl rfl fun hG _ W s _=>yhr (x:=.tmp 246) (t:=4) (op:=.not) (by kernel_rfl) (s.g 4 246 (by kernel_rfl) hG rfl) (yqB W _))
 refine us ?_ (yaH true 2 244 true hz (by decide) (by kernel_rfl) rfl rfl fun hG _ W s hS=>yaf (x:=.tmp 245) (t:=4) (by kernel_rfl) (s.g 3 245 (by kernel_rfl) hG rfl) (ld4 W _ 17 _ (hcell W hS 17 _ rfl)))
 refine us ?_ (yaH true 2 244 true hz (by decide) (by kernel_rfl) rfl rfl fun _ _ W s _=>yad (x:=.tmp 1) (t:=31) (f:=10) (by kernel_rfl) (s.b 1 (by kernel_rfl) h1) (yq8 W _))
 refine us ?_ (yaO hz (by decide) (by kernel_rfl) fun _ _ s _=>yac (x:=.tmp 243) (by kernel_rfl) (s.u 1 243 (by kernel_rfl)))
 refine us ?_ (yvl hz (by decide) (by kernel_rfl) (fun _ _ s=>ycG (ts:=#[3,3,3]) (x:=.tmp 242) (y:=.const (.int .i64 11)) (z:=.const (.int .i64 13)) (f:=31) ypw (by kernel_rfl) rfl (s.u 0 242 (by kernel_rfl)) (rfl) (rfl)) q243)
 refine us ?_ (yaO hz (by decide) (by kernel_rfl) fun _ _ s _=>yac (x:=.tmp 3) (by kernel_rfl) (s.b 3 (by kernel_rfl) h3))
 exact fun j hj=>absurd hj (Nat.not_lt_zero j)
noncomputable def k28_R:Array Oper:=((Tryz.f13.body).bind (yas 28)).getD #[]
def ytW (c:Cm) (a5:Option Addr) (c5:Nat) (b:Nat) (ok:Bool) (j:Nat):Value:=([.bool ok,.bool ok,gw (ok == true) (.pointer (some ⟨b,18,none⟩)),gw (ok == true) (.agg #[.int .i64 c.wh.k,.int .i64 c.wh.v.k,.int .i64 c.wh.v.n,.string ⟨c.wh.v.s.toArray⟩,.string ⟨c.wh.nm.toArray⟩,.slice a5 c.wh.args.length c5]),gw (ok == true) (.bool (exR c.wh)),.bool (ok&&(exR c.wh)),.bool (ok&&(exR c.wh))]:List Value).getD j undef
def k28_d:List (Option Tmp):=[some 249,some 250,some 251,some 252,some 253,some 254,some 4]
theorem ylG:k28_d.Nodup:=by unfold k28_d;decide
theorem ysi {c:Cm} {a1 a2 a3 a4 a5:Option Addr} {c1 c2 c3 c4 c5:Nat} {b:Nat} {ok:Bool} {S:World→Prop} {a0:Act} {Q:Exit→Act→World→Prop} {w:World} (h1:a0.tmps[1]?=some (.pointer (some ⟨b,0,none⟩))) (h4:a0.tmps[4]?=some (.bool ok)) (hcell:∀ W,S W→∀ o x,(cmL c (.slice a1 c.cols.length c1) (.slice a2 c.vals.length c2) (.slice a3 c.fields.length c3) (.slice a4 c.expr.args.length c4) (.slice a5 c.wh.args.length c5))[o]?=some x→W.cell? ⟨b,o,none⟩=some x) (q253:∀ W,S W→Calls Tryz.prog 35 #[.agg #[.int .i64 c.wh.k,.int .i64 c.wh.v.k,.int .i64 c.wh.v.n,.string ⟨c.wh.v.s.toArray⟩,.string ⟨c.wh.nm.toArray⟩,.slice a5 c.wh.args.length c5]] W fun e w'=>e=.returned (.bool (exR c.wh))∧S w') (ha:a0.tmps.size=272) (hS:S w)
  (hq:∀ a' w',S w'→a'.defers=a0.defers→a'.tmps.size=272→(∀ j d,k28_d[j]?=some (some d)→a'.tmps[d]?=some (ytW c a5 c5 b ok j))→(∀ d,some d ∉ k28_d→a'.tmps[d]?=a0.tmps[d]?)→Q .normal a' w'):(Code.region 28 k28_R false).wp Tryz.prog Q a0 w:=by
 have hz:k28_R.size=7:=by kernel_rfl
 refine yaG (m:=272) hz (by kernel_rfl) ylG (by kernel_rfl) ha ?_ hS hq
 refine us ?_ (yaO hz (by decide) (by kernel_rfl) fun _ _ s _=>yaA (x:=.tmp 254) (by kernel_rfl) (s.u 5 254 (by kernel_rfl)))
 refine us ?_ (yaO hz (by decide) (by kernel_rfl) fun _ _ s _=>yav (G:=true) (by kernel_rfl) (s.u 1 250 (by kernel_rfl)) (s.u 4 253 (by kernel_rfl)) rfl rfl)
 refine us ?_ (yfV true 1 250 true hz (by decide) (by kernel_rfl) rfl rfl (fun hG _ _ s=>yaP (ts:=#[29]) (x:=.tmp 252) (f:=35) yuy (by kernel_rfl) rfl (s.g 3 252 (by kernel_rfl) hG rfl)) q253)
 refine us ?_ (yaH true 1 250 true hz (by decide) (by kernel_rfl) rfl rfl fun hG _ W s hS=>yaf (x:=.tmp 251) (t:=29) (by kernel_rfl) (s.g 2 251 (by kernel_rfl) hG rfl) (ygD W _ 18 _ _ _ _ _ _ (hcell W hS 18 _ rfl) (hcell W hS 19 _ rfl) (hcell W hS 20 _ rfl) (hcell W hS 21 _ rfl) (hcell W hS 22 _ rfl) (hcell W hS 23 _ rfl)))
 refine us ?_ (yaH true 1 250 true hz (by decide) (by kernel_rfl) rfl rfl fun _ _ W s _=>yad (x:=.tmp 1) (t:=31) (f:=11) (by kernel_rfl) (s.b 1 (by kernel_rfl) h1) (ypN W _))
 refine us ?_ (yaO hz (by decide) (by kernel_rfl) fun _ _ s _=>yac (x:=.tmp 249) (by kernel_rfl) (s.u 0 249 (by kernel_rfl)))
 refine us ?_ (yaO hz (by decide) (by kernel_rfl) fun _ _ s _=>yac (x:=.tmp 4) (by kernel_rfl) (s.b 4 (by kernel_rfl) h4))
 exact fun j hj=>absurd hj (Nat.not_lt_zero j)
noncomputable def k29_R:Array Oper:=((Tryz.f13.body).bind (yas 29)).getD #[]
def ytX (c:Cm) (a5:Option Addr) (c5:Nat) (b:Nat) (ok:Bool) (j:Nat):Value:=([.bool ok,.bool ok,gw (ok == true) (.pointer (some ⟨b,18,none⟩)),gw (ok == true) (.agg #[.int .i64 c.wh.k,.int .i64 c.wh.v.k,.int .i64 c.wh.v.n,.string ⟨c.wh.v.s.toArray⟩,.string ⟨c.wh.nm.toArray⟩,.slice a5 c.wh.args.length c5]),gw (ok == true) (.bool (ybe c.wh)),.bool (ok&&(ybe c.wh)),.bool (ok&&(ybe c.wh)),gw ((ok&&(ybe c.wh)) == true) (.int .i64 c.kind),gw ((ok&&(ybe c.wh)) == true) (.bool (yaW c.kind 11 13)),gw ((ok&&(ybe c.wh)) == true) (.bool (yaW c.kind 11 13)),gw (((ok&&(ybe c.wh)) == true)&&((yaW c.kind 11 13) == false)) (.pointer (some ⟨b,17,none⟩)),gw (((ok&&(ybe c.wh)) == true)&&((yaW c.kind 11 13) == false)) (.bool c.all),gw (((ok&&(ybe c.wh)) == true)&&((yaW c.kind 11 13) == false)) (.bool (!c.all)),gw ((ok&&(ybe c.wh)) == true) (.bool ((yaW c.kind 11 13) || (!c.all))),.bool ((ok&&(ybe c.wh))&&((yaW c.kind 11 13) || (!c.all))),.bool ((ok&&(ybe c.wh))&&((yaW c.kind 11 13) || (!c.all)))]:List Value).getD j undef
def k29_d:List (Option Tmp):=[some 255,some 256,some 257,some 258,some 259,some 260,some 261,some 262,some 263,some 264,some 265,some 266,some 267,some 268,some 269,some 4]
theorem ylH:k29_d.Nodup:=by unfold k29_d;decide
theorem ysj {c:Cm} {a1 a2 a3 a4 a5:Option Addr} {c1 c2 c3 c4 c5:Nat} {b:Nat} {ok:Bool} {S:World→Prop} {a0:Act} {Q:Exit→Act→World→Prop} {w:World} (h1:a0.tmps[1]?=some (.pointer (some ⟨b,0,none⟩))) (h3:a0.tmps[3]?=some (.int .i64 c.kind)) (h4:a0.tmps[4]?=some (.bool ok)) (hcell:∀ W,S W→∀ o x,(cmL c (.slice a1 c.cols.length c1) (.slice a2 c.vals.length c2) (.slice a3 c.fields.length c3) (.slice a4 c.expr.args.length c4) (.slice a5 c.wh.args.length c5))[o]?=some x→W.cell? ⟨b,o,none⟩=some x) (q259:∀ W,S W→Calls Tryz.prog 36 #[.agg #[.int .i64 c.wh.k,.int .i64 c.wh.v.k,.int .i64 c.wh.v.n,.string ⟨c.wh.v.s.toArray⟩,.string ⟨c.wh.nm.toArray⟩,.slice a5 c.wh.args.length c5]] W fun e w'=>e=.returned (.bool (ybe c.wh))∧S w') (q263:∀ W,S W→Calls Tryz.prog 31 #[.int .i64 c.kind,.int .i64 11,.int .i64 13] W fun e w'=>e=.returned (.bool (yaW c.kind 11 13))∧S w') (ha:a0.tmps.size=272) (hS:S w)
  (hq:∀ a' w',S w'→a'.defers=a0.defers→a'.tmps.size=272→(∀ j d,k29_d[j]?=some (some d)→a'.tmps[d]?=some (ytX c a5 c5 b ok j))→(∀ d,some d ∉ k29_d→a'.tmps[d]?=a0.tmps[d]?)→Q .normal a' w'):(Code.region 29 k29_R false).wp Tryz.prog Q a0 w:=by
 have hz:k29_R.size=16:=by kernel_rfl
 refine yaG (m:=272) hz (by kernel_rfl) ylH (by kernel_rfl) ha ?_ hS hq
 refine us ?_ (yaO hz (by decide) (by kernel_rfl) fun _ _ s _=>yaA (x:=.tmp 269) (by kernel_rfl) (s.u 14 269 (by kernel_rfl)))
 refine us ?_ (yaO hz (by decide) (by kernel_rfl) fun _ _ s _=>yav (G:=true) (by kernel_rfl) (s.u 6 261 (by kernel_rfl)) (s.u 13 268 (by kernel_rfl)) rfl rfl)
 refine us ?_ (yaH true 6 261 true hz (by decide) (by kernel_rfl) rfl rfl fun hG _ _ s _=>yaS (by kernel_rfl) (s.g 9 264 (by kernel_rfl) hG rfl) (s.u 12 267 (by kernel_rfl)) rfl hG)
 refine us ?_ (yaH _ 9 264 false hz (by decide) (by kernel_rfl) rfl rfl fun hG _ W s _=>yhr (x:=.tmp 266) (t:=4) (op:=.not) (by kernel_rfl) (s.g 11 266 (by kernel_rfl) hG rfl) (yqB W _))
 refine us ?_ (yaH _ 9 264 false hz (by decide) (by kernel_rfl) rfl rfl fun hG _ W s hS=>yaf (x:=.tmp 265) (t:=4) (by kernel_rfl) (s.g 10 265 (by kernel_rfl) hG rfl) (ld4 W _ 17 _ (hcell W hS 17 _ rfl)))
 refine us ?_ (yaH _ 9 264 false hz (by decide) (by kernel_rfl) rfl rfl fun _ _ W s _=>yad (x:=.tmp 1) (t:=31) (f:=10) (by kernel_rfl) (s.b 1 (by kernel_rfl) h1) (yq8 W _))
 refine us ?_ (yaH true 6 261 true hz (by decide) (by kernel_rfl) rfl rfl fun hG _ _ s _=>yac (x:=.tmp 263) (by kernel_rfl) (s.g 8 263 (by kernel_rfl) hG rfl))
 refine us ?_ (yfV true 6 261 true hz (by decide) (by kernel_rfl) rfl rfl (fun hG _ _ s=>ycG (ts:=#[3,3,3]) (x:=.tmp 262) (y:=.const (.int .i64 11)) (z:=.const (.int .i64 13)) (f:=31) ypw (by kernel_rfl) rfl (s.g 7 262 (by kernel_rfl) hG rfl) (rfl) (rfl)) q263)
 refine us ?_ (yaH true 6 261 true hz (by decide) (by kernel_rfl) rfl rfl fun _ _ _ s _=>yac (x:=.tmp 3) (by kernel_rfl) (s.b 3 (by kernel_rfl) h3))
 refine us ?_ (yaO hz (by decide) (by kernel_rfl) fun _ _ s _=>yac (x:=.tmp 260) (by kernel_rfl) (s.u 5 260 (by kernel_rfl)))
 refine us ?_ (yaO hz (by decide) (by kernel_rfl) fun _ _ s _=>yav (G:=true) (by kernel_rfl) (s.u 1 256 (by kernel_rfl)) (s.u 4 259 (by kernel_rfl)) rfl rfl)
 refine us ?_ (yfV true 1 256 true hz (by decide) (by kernel_rfl) rfl rfl (fun hG _ _ s=>yaP (ts:=#[29]) (x:=.tmp 258) (f:=36) yuz (by kernel_rfl) rfl (s.g 3 258 (by kernel_rfl) hG rfl)) q259)
 refine us ?_ (yaH true 1 256 true hz (by decide) (by kernel_rfl) rfl rfl fun hG _ W s hS=>yaf (x:=.tmp 257) (t:=29) (by kernel_rfl) (s.g 2 257 (by kernel_rfl) hG rfl) (ygD W _ 18 _ _ _ _ _ _ (hcell W hS 18 _ rfl) (hcell W hS 19 _ rfl) (hcell W hS 20 _ rfl) (hcell W hS 21 _ rfl) (hcell W hS 22 _ rfl) (hcell W hS 23 _ rfl)))
 refine us ?_ (yaH true 1 256 true hz (by decide) (by kernel_rfl) rfl rfl fun _ _ W s _=>yad (x:=.tmp 1) (t:=31) (f:=11) (by kernel_rfl) (s.b 1 (by kernel_rfl) h1) (ypN W _))
 refine us ?_ (yaO hz (by decide) (by kernel_rfl) fun _ _ s _=>yac (x:=.tmp 255) (by kernel_rfl) (s.u 0 255 (by kernel_rfl)))
 refine us ?_ (yaO hz (by decide) (by kernel_rfl) fun _ _ s _=>yac (x:=.tmp 4) (by kernel_rfl) (s.b 4 (by kernel_rfl) h4))
 exact fun j hj=>absurd hj (Nat.not_lt_zero j)
noncomputable def k30_R:Array Oper:=((Tryz.f13.body).bind (yas 30)).getD #[]
def ytZ (ok:Bool) (j:Nat):Value:=([.bool ok,.bool (!ok)]:List Value).getD j undef
def k30_d:List (Option Tmp):=[some 270,some 271]
theorem ylI:k30_d.Nodup:=by unfold k30_d;decide
theorem ysk {ok:Bool} {S:World→Prop} {a0:Act} {Q:Exit→Act→World→Prop} {w:World} (h4:a0.tmps[4]?=some (.bool ok)) (ha:a0.tmps.size=272) (hS:S w)
  (hq:∀ a' w',S w'→a'.defers=a0.defers→a'.tmps.size=272→(∀ j d,k30_d[j]?=some (some d)→a'.tmps[d]?=some (ytZ ok j))→(∀ d,some d ∉ k30_d→a'.tmps[d]?=a0.tmps[d]?)→Q .normal a' w'):(Code.region 30 k30_R false).wp Tryz.prog Q a0 w:=by
 have hz:k30_R.size=2:=by kernel_rfl
 refine yaG (m:=272) hz (by kernel_rfl) ylI (by kernel_rfl) ha ?_ hS hq
 refine us ?_ (yaO hz (by decide) (by kernel_rfl) fun _ W s _=>yhr (x:=.tmp 270) (t:=4) (op:=.not) (by kernel_rfl) (s.u 0 270 (by kernel_rfl)) (yqB W _))
 refine us ?_ (yaO hz (by decide) (by kernel_rfl) fun _ _ s _=>yac (x:=.tmp 4) (by kernel_rfl) (s.b 4 (by kernel_rfl) h4))
 exact fun j hj=>absurd hj (Nat.not_lt_zero j)
noncomputable def ckr_R:Array Oper:=((Tryz.f13.body).bind (yas 4)).getD #[]
def yti (c:Cm) (b:Nat) (j:Nat):Value:=([.int .i64 c.kind,.bool (yaW c.kind 1 16),.bool (yaW c.kind 1 16),gw ((yaW c.kind 1 16) == true) (.pointer (some ⟨b,1,none⟩)),gw ((yaW c.kind 1 16) == true) (.string ⟨c.name.toArray⟩),gw ((yaW c.kind 1 16) == true) (.int .i64 c.kind),gw ((yaW c.kind 1 16) == true) (.bool (decide (c.kind≤13))),gw ((yaW c.kind 1 16) == true) (.bool (yax c.name (decide (c.kind≤13)))),.bool ((yaW c.kind 1 16)&&(yax c.name (decide (c.kind≤13)))),.bool ((yaW c.kind 1 16)&&(yax c.name (decide (c.kind≤13)))),gw (((yaW c.kind 1 16)&&(yax c.name (decide (c.kind≤13)))) == true) (.pointer (some ⟨b,2,none⟩)),gw (((yaW c.kind 1 16)&&(yax c.name (decide (c.kind≤13)))) == true) (.string ⟨c.other.toArray⟩),gw (((yaW c.kind 1 16)&&(yax c.name (decide (c.kind≤13)))) == true) (.int .i64 c.kind),gw (((yaW c.kind 1 16)&&(yax c.name (decide (c.kind≤13)))) == true) (.bool (decide (c.kind=5))),gw (((yaW c.kind 1 16)&&(yax c.name (decide (c.kind≤13)))) == true) (.bool (decide (c.kind=5))),gw ((((yaW c.kind 1 16)&&(yax c.name (decide (c.kind≤13)))) == true)&&((decide (c.kind=5)) == false)) (.int .i64 c.kind),gw ((((yaW c.kind 1 16)&&(yax c.name (decide (c.kind≤13)))) == true)&&((decide (c.kind=5)) == false)) (.bool (decide (c.kind=7))),gw (((yaW c.kind 1 16)&&(yax c.name (decide (c.kind≤13)))) == true) (.bool ((decide (c.kind=5)) || (decide (c.kind=7)))),gw (((yaW c.kind 1 16)&&(yax c.name (decide (c.kind≤13)))) == true) (.bool ((decide (c.kind=5)) || (decide (c.kind=7)))),gw ((((yaW c.kind 1 16)&&(yax c.name (decide (c.kind≤13)))) == true)&&(((decide (c.kind=5)) || (decide (c.kind=7))) == false)) (.int .i64 c.kind),gw ((((yaW c.kind 1 16)&&(yax c.name (decide (c.kind≤13)))) == true)&&(((decide (c.kind=5)) || (decide (c.kind=7))) == false)) (.bool (decide (c.kind=8))),gw (((yaW c.kind 1 16)&&(yax c.name (decide (c.kind≤13)))) == true) (.bool (((decide (c.kind=5)) || (decide (c.kind=7))) || (decide (c.kind=8)))),gw (((yaW c.kind 1 16)&&(yax c.name (decide (c.kind≤13)))) == true) (.bool (yax c.other (((decide (c.kind=5)) || (decide (c.kind=7))) || (decide (c.kind=8))))),.bool (((yaW c.kind 1 16)&&(yax c.name (decide (c.kind≤13))))&&(yax c.other (((decide (c.kind=5)) || (decide (c.kind=7))) || (decide (c.kind=8))))),.bool (((yaW c.kind 1 16)&&(yax c.name (decide (c.kind≤13))))&&(yax c.other (((decide (c.kind=5)) || (decide (c.kind=7))) || (decide (c.kind=8))))),gw ((((yaW c.kind 1 16)&&(yax c.name (decide (c.kind≤13))))&&(yax c.other (((decide (c.kind=5)) || (decide (c.kind=7))) || (decide (c.kind=8))))) == true) (.pointer (some ⟨b,3,none⟩)),gw ((((yaW c.kind 1 16)&&(yax c.name (decide (c.kind≤13))))&&(yax c.other (((decide (c.kind=5)) || (decide (c.kind=7))) || (decide (c.kind=8))))) == true) (.string ⟨c.column.toArray⟩),gw ((((yaW c.kind 1 16)&&(yax c.name (decide (c.kind≤13))))&&(yax c.other (((decide (c.kind=5)) || (decide (c.kind=7))) || (decide (c.kind=8))))) == true) (.int .i64 c.kind),gw ((((yaW c.kind 1 16)&&(yax c.name (decide (c.kind≤13))))&&(yax c.other (((decide (c.kind=5)) || (decide (c.kind=7))) || (decide (c.kind=8))))) == true) (.bool (yaW c.kind 3 6)),gw ((((yaW c.kind 1 16)&&(yax c.name (decide (c.kind≤13))))&&(yax c.other (((decide (c.kind=5)) || (decide (c.kind=7))) || (decide (c.kind=8))))) == true) (.bool (yaW c.kind 3 6)),gw (((((yaW c.kind 1 16)&&(yax c.name (decide (c.kind≤13))))&&(yax c.other (((decide (c.kind=5)) || (decide (c.kind=7))) || (decide (c.kind=8))))) == true)&&((yaW c.kind 3 6) == false)) (.int .i64 c.kind),gw (((((yaW c.kind 1 16)&&(yax c.name (decide (c.kind≤13))))&&(yax c.other (((decide (c.kind=5)) || (decide (c.kind=7))) || (decide (c.kind=8))))) == true)&&((yaW c.kind 3 6) == false)) (.bool (decide (c.kind=8))),gw ((((yaW c.kind 1 16)&&(yax c.name (decide (c.kind≤13))))&&(yax c.other (((decide (c.kind=5)) || (decide (c.kind=7))) || (decide (c.kind=8))))) == true) (.bool ((yaW c.kind 3 6) || (decide (c.kind=8)))),gw ((((yaW c.kind 1 16)&&(yax c.name (decide (c.kind≤13))))&&(yax c.other (((decide (c.kind=5)) || (decide (c.kind=7))) || (decide (c.kind=8))))) == true) (.bool ((yaW c.kind 3 6) || (decide (c.kind=8)))),gw (((((yaW c.kind 1 16)&&(yax c.name (decide (c.kind≤13))))&&(yax c.other (((decide (c.kind=5)) || (decide (c.kind=7))) || (decide (c.kind=8))))) == true)&&(((yaW c.kind 3 6) || (decide (c.kind=8))) == false)) (.int .i64 c.kind),gw (((((yaW c.kind 1 16)&&(yax c.name (decide (c.kind≤13))))&&(yax c.other (((decide (c.kind=5)) || (decide (c.kind=7))) || (decide (c.kind=8))))) == true)&&(((yaW c.kind 3 6) || (decide (c.kind=8))) == false)) (.bool (decide (c.kind=12))),gw ((((yaW c.kind 1 16)&&(yax c.name (decide (c.kind≤13))))&&(yax c.other (((decide (c.kind=5)) || (decide (c.kind=7))) || (decide (c.kind=8))))) == true) (.bool (((yaW c.kind 3 6) || (decide (c.kind=8))) || (decide (c.kind=12)))),gw ((((yaW c.kind 1 16)&&(yax c.name (decide (c.kind≤13))))&&(yax c.other (((decide (c.kind=5)) || (decide (c.kind=7))) || (decide (c.kind=8))))) == true) (.bool (yax c.column (((yaW c.kind 3 6) || (decide (c.kind=8))) || (decide (c.kind=12))))),.bool ((((yaW c.kind 1 16)&&(yax c.name (decide (c.kind≤13))))&&(yax c.other (((decide (c.kind=5)) || (decide (c.kind=7))) || (decide (c.kind=8)))))&&(yax c.column (((yaW c.kind 3 6) || (decide (c.kind=8))) || (decide (c.kind=12))))),.bool ((((yaW c.kind 1 16)&&(yax c.name (decide (c.kind≤13))))&&(yax c.other (((decide (c.kind=5)) || (decide (c.kind=7))) || (decide (c.kind=8)))))&&(yax c.column (((yaW c.kind 3 6) || (decide (c.kind=8))) || (decide (c.kind=12)))))]:List Value).getD j undef
def ckr_d:List (Option Tmp):=[some 38,some 39,some 40,some 41,some 42,some 43,some 44,some 45,some 46,some 47,some 48,some 49,some 50,some 51,some 52,some 53,some 54,some 55,some 56,some 57,some 58,some 59,some 60,some 61,some 62,some 63,some 64,some 65,some 66,some 67,some 68,some 69,some 70,some 71,some 72,some 73,some 74,some 75,some 76,some 4]
theorem ygn:ckr_d.Nodup:=by unfold ckr_d;decide
theorem yrg {c:Cm} {cv vv fv ea wa:Value} {b:Nat} {S:World→Prop} {a0:Act} {Q:Exit→Act→World→Prop} {w:World} (h1:a0.tmps[1]?=some (.pointer (some ⟨b,0,none⟩))) (h3:a0.tmps[3]?=some (.int .i64 c.kind)) (hcell:∀ W,S W→∀ o x,(cmL c cv vv fv ea wa)[o]?=some x→W.cell? ⟨b,o,none⟩=some x) (q39:∀ W,S W→Calls Tryz.prog 31 #[.int .i64 c.kind,.int .i64 1,.int .i64 16] W fun e w'=>e=.returned (.bool (yaW c.kind 1 16))∧S w') (q45:∀ W,S W→Calls Tryz.prog 32 #[.string ⟨c.name.toArray⟩,.bool (decide (c.kind≤13))] W fun e w'=>e=.returned (.bool (yax c.name (decide (c.kind≤13))))∧S w') (q60:∀ W,S W→Calls Tryz.prog 32 #[.string ⟨c.other.toArray⟩,.bool (((decide (c.kind=5)) || (decide (c.kind=7))) || (decide (c.kind=8)))] W fun e w'=>e=.returned (.bool (yax c.other (((decide (c.kind=5)) || (decide (c.kind=7))) || (decide (c.kind=8)))))∧S w') (q66:∀ W,S W→Calls Tryz.prog 31 #[.int .i64 c.kind,.int .i64 3,.int .i64 6] W fun e w'=>e=.returned (.bool (yaW c.kind 3 6))∧S w') (q75:∀ W,S W→Calls Tryz.prog 32 #[.string ⟨c.column.toArray⟩,.bool (((yaW c.kind 3 6) || (decide (c.kind=8))) || (decide (c.kind=12)))] W fun e w'=>e=.returned (.bool (yax c.column (((yaW c.kind 3 6) || (decide (c.kind=8))) || (decide (c.kind=12)))))∧S w') (ha:a0.tmps.size=272) (hS:S w.drew)
  (hq:∀ w',S w'→Q .normal { tmps:=(ydW a0.tmps.toList (ckr_d.zip ((List.range 40).map (yti c b)))).toArray,defers:=a0.defers } w'):(Code.region 4 ckr_R true).wp Tryz.prog Q a0 w:=by
 have hz:ckr_R.size=40:=by kernel_rfl
 refine yd9 (m:=272) (by kernel_rfl) hz (by kernel_rfl) (by kernel_rfl) ygn ha ?_ hS hq
 refine us ?_ (ya1 hz (by decide) (by kernel_rfl) fun _ _ s _=>yaA (x:=.tmp 76) (by kernel_rfl) (s.u 38 76 (by kernel_rfl)))
 refine us ?_ (ya1 hz (by decide) (by kernel_rfl) fun _ _ s _=>yav (G:=true) (by kernel_rfl) (s.u 24 62 (by kernel_rfl)) (s.u 37 75 (by kernel_rfl)) rfl rfl)
 refine us ?_ (yc9 true 24 62 true hz (by decide) (by kernel_rfl) rfl rfl (fun hG _ _ s=>ybp (ts:=#[9,4]) (x:=.tmp 64) (y:=.tmp 74) (f:=32) yte (by kernel_rfl) rfl (s.g 26 64 (by kernel_rfl) hG rfl) (s.g 36 74 (by kernel_rfl) hG rfl)) q75)
 refine us ?_ (yaM true 24 62 true hz (by decide) (by kernel_rfl) rfl rfl fun hG _ _ s _=>yaS (by kernel_rfl) (s.g 33 71 (by kernel_rfl) hG rfl) (s.u 35 73 (by kernel_rfl)) rfl hG)
 refine us ?_ (yaM _ 33 71 false hz (by decide) (by kernel_rfl) rfl rfl fun hG _ W s _=>yaq (u:=3) (x:=.tmp 72) (y:=.const (.int .i64 12)) (by kernel_rfl) (s.g 34 72 (by kernel_rfl) hG rfl) (rfl) (yee W _ _ _ _))
 refine us ?_ (yaM _ 33 71 false hz (by decide) (by kernel_rfl) rfl rfl fun _ _ _ s _=>yac (x:=.tmp 3) (by kernel_rfl) (s.b 3 (by kernel_rfl) h3))
 refine us ?_ (yaM true 24 62 true hz (by decide) (by kernel_rfl) rfl rfl fun hG _ _ s _=>yac (x:=.tmp 70) (by kernel_rfl) (s.g 32 70 (by kernel_rfl) hG rfl))
 refine us ?_ (yaM true 24 62 true hz (by decide) (by kernel_rfl) rfl rfl fun hG _ _ s _=>yaS (by kernel_rfl) (s.g 29 67 (by kernel_rfl) hG rfl) (s.u 31 69 (by kernel_rfl)) rfl hG)
 refine us ?_ (yaM _ 29 67 false hz (by decide) (by kernel_rfl) rfl rfl fun hG _ W s _=>yaq (u:=3) (x:=.tmp 68) (y:=.const (.int .i64 8)) (by kernel_rfl) (s.g 30 68 (by kernel_rfl) hG rfl) (rfl) (yee W _ _ _ _))
 refine us ?_ (yaM _ 29 67 false hz (by decide) (by kernel_rfl) rfl rfl fun _ _ _ s _=>yac (x:=.tmp 3) (by kernel_rfl) (s.b 3 (by kernel_rfl) h3))
 refine us ?_ (yaM true 24 62 true hz (by decide) (by kernel_rfl) rfl rfl fun hG _ _ s _=>yac (x:=.tmp 66) (by kernel_rfl) (s.g 28 66 (by kernel_rfl) hG rfl))
 refine us ?_ (yc9 true 24 62 true hz (by decide) (by kernel_rfl) rfl rfl (fun hG _ _ s=>ycG (ts:=#[3,3,3]) (x:=.tmp 65) (y:=.const (.int .i64 3)) (z:=.const (.int .i64 6)) (f:=31) ypw (by kernel_rfl) rfl (s.g 27 65 (by kernel_rfl) hG rfl) (rfl) (rfl)) q66)
 refine us ?_ (yaM true 24 62 true hz (by decide) (by kernel_rfl) rfl rfl fun _ _ _ s _=>yac (x:=.tmp 3) (by kernel_rfl) (s.b 3 (by kernel_rfl) h3))
 refine us ?_ (yaM true 24 62 true hz (by decide) (by kernel_rfl) rfl rfl fun hG _ W s hS=>yaf (x:=.tmp 63) (t:=9) (by kernel_rfl) (s.g 25 63 (by kernel_rfl) hG rfl) (ld9 W _ 3 _ (hcell W hS 3 _ rfl)))
 refine us ?_ (yaM true 24 62 true hz (by decide) (by kernel_rfl) rfl rfl fun _ _ W s _=>yad (x:=.tmp 1) (t:=31) (f:=3) (by kernel_rfl) (s.b 1 (by kernel_rfl) h1) (fa3 W _))
 refine us ?_ (ya1 hz (by decide) (by kernel_rfl) fun _ _ s _=>yac (x:=.tmp 61) (by kernel_rfl) (s.u 23 61 (by kernel_rfl)))
 refine us ?_ (ya1 hz (by decide) (by kernel_rfl) fun _ _ s _=>yav (G:=true) (by kernel_rfl) (s.u 9 47 (by kernel_rfl)) (s.u 22 60 (by kernel_rfl)) rfl rfl)
 refine us ?_ (yc9 true 9 47 true hz (by decide) (by kernel_rfl) rfl rfl (fun hG _ _ s=>ybp (ts:=#[9,4]) (x:=.tmp 49) (y:=.tmp 59) (f:=32) yte (by kernel_rfl) rfl (s.g 11 49 (by kernel_rfl) hG rfl) (s.g 21 59 (by kernel_rfl) hG rfl)) q60)
 refine us ?_ (yaM true 9 47 true hz (by decide) (by kernel_rfl) rfl rfl fun hG _ _ s _=>yaS (by kernel_rfl) (s.g 18 56 (by kernel_rfl) hG rfl) (s.u 20 58 (by kernel_rfl)) rfl hG)
 refine us ?_ (yaM _ 18 56 false hz (by decide) (by kernel_rfl) rfl rfl fun hG _ W s _=>yaq (u:=3) (x:=.tmp 57) (y:=.const (.int .i64 8)) (by kernel_rfl) (s.g 19 57 (by kernel_rfl) hG rfl) (rfl) (yee W _ _ _ _))
 refine us ?_ (yaM _ 18 56 false hz (by decide) (by kernel_rfl) rfl rfl fun _ _ _ s _=>yac (x:=.tmp 3) (by kernel_rfl) (s.b 3 (by kernel_rfl) h3))
 refine us ?_ (yaM true 9 47 true hz (by decide) (by kernel_rfl) rfl rfl fun hG _ _ s _=>yac (x:=.tmp 55) (by kernel_rfl) (s.g 17 55 (by kernel_rfl) hG rfl))
 refine us ?_ (yaM true 9 47 true hz (by decide) (by kernel_rfl) rfl rfl fun hG _ _ s _=>yaS (by kernel_rfl) (s.g 14 52 (by kernel_rfl) hG rfl) (s.u 16 54 (by kernel_rfl)) rfl hG)
 refine us ?_ (yaM _ 14 52 false hz (by decide) (by kernel_rfl) rfl rfl fun hG _ W s _=>yaq (u:=3) (x:=.tmp 53) (y:=.const (.int .i64 7)) (by kernel_rfl) (s.g 15 53 (by kernel_rfl) hG rfl) (rfl) (yee W _ _ _ _))
 refine us ?_ (yaM _ 14 52 false hz (by decide) (by kernel_rfl) rfl rfl fun _ _ _ s _=>yac (x:=.tmp 3) (by kernel_rfl) (s.b 3 (by kernel_rfl) h3))
 refine us ?_ (yaM true 9 47 true hz (by decide) (by kernel_rfl) rfl rfl fun hG _ _ s _=>yac (x:=.tmp 51) (by kernel_rfl) (s.g 13 51 (by kernel_rfl) hG rfl))
 refine us ?_ (yaM true 9 47 true hz (by decide) (by kernel_rfl) rfl rfl fun hG _ W s _=>yaq (u:=3) (x:=.tmp 50) (y:=.const (.int .i64 5)) (by kernel_rfl) (s.g 12 50 (by kernel_rfl) hG rfl) (rfl) (yee W _ _ _ _))
 refine us ?_ (yaM true 9 47 true hz (by decide) (by kernel_rfl) rfl rfl fun _ _ _ s _=>yac (x:=.tmp 3) (by kernel_rfl) (s.b 3 (by kernel_rfl) h3))
 refine us ?_ (yaM true 9 47 true hz (by decide) (by kernel_rfl) rfl rfl fun hG _ W s hS=>yaf (x:=.tmp 48) (t:=9) (by kernel_rfl) (s.g 10 48 (by kernel_rfl) hG rfl) (ld9 W _ 2 _ (hcell W hS 2 _ rfl)))
 refine us ?_ (yaM true 9 47 true hz (by decide) (by kernel_rfl) rfl rfl fun _ _ W s _=>yad (x:=.tmp 1) (t:=31) (f:=2) (by kernel_rfl) (s.b 1 (by kernel_rfl) h1) (fa2 W _))
 refine us ?_ (ya1 hz (by decide) (by kernel_rfl) fun _ _ s _=>yac (x:=.tmp 46) (by kernel_rfl) (s.u 8 46 (by kernel_rfl)))
 refine us ?_ (ya1 hz (by decide) (by kernel_rfl) fun _ _ s _=>yav (G:=true) (by kernel_rfl) (s.u 2 40 (by kernel_rfl)) (s.u 7 45 (by kernel_rfl)) rfl rfl)
 refine us ?_ (yc9 true 2 40 true hz (by decide) (by kernel_rfl) rfl rfl (fun hG _ _ s=>ybp (ts:=#[9,4]) (x:=.tmp 42) (y:=.tmp 44) (f:=32) yte (by kernel_rfl) rfl (s.g 4 42 (by kernel_rfl) hG rfl) (s.g 6 44 (by kernel_rfl) hG rfl)) q45)
 refine us ?_ (yaM true 2 40 true hz (by decide) (by kernel_rfl) rfl rfl fun hG _ W s _=>yaq (u:=3) (x:=.tmp 43) (y:=.const (.int .i64 13)) (by kernel_rfl) (s.g 5 43 (by kernel_rfl) hG rfl) (rfl) (yso W _ _ _ _))
 refine us ?_ (yaM true 2 40 true hz (by decide) (by kernel_rfl) rfl rfl fun _ _ _ s _=>yac (x:=.tmp 3) (by kernel_rfl) (s.b 3 (by kernel_rfl) h3))
 refine us ?_ (yaM true 2 40 true hz (by decide) (by kernel_rfl) rfl rfl fun hG _ W s hS=>yaf (x:=.tmp 41) (t:=9) (by kernel_rfl) (s.g 3 41 (by kernel_rfl) hG rfl) (ld9 W _ 1 _ (hcell W hS 1 _ rfl)))
 refine us ?_ (yaM true 2 40 true hz (by decide) (by kernel_rfl) rfl rfl fun _ _ W s _=>yad (x:=.tmp 1) (t:=31) (f:=1) (by kernel_rfl) (s.b 1 (by kernel_rfl) h1) (fa1 W _))
 refine us ?_ (ya1 hz (by decide) (by kernel_rfl) fun _ _ s _=>yac (x:=.tmp 39) (by kernel_rfl) (s.u 1 39 (by kernel_rfl)))
 refine us ?_ (yol hz (by decide) (by kernel_rfl) (fun _ _ s=>ycG (ts:=#[3,3,3]) (x:=.tmp 38) (y:=.const (.int .i64 1)) (z:=.const (.int .i64 16)) (f:=31) ypw (by kernel_rfl) rfl (s.u 0 38 (by kernel_rfl)) (rfl) (rfl)) q39)
 refine us ?_ (ya1 hz (by decide) (by kernel_rfl) fun _ _ s _=>yac (x:=.tmp 3) (by kernel_rfl) (s.b 3 (by kernel_rfl) h3))
 exact fun j hj=>absurd hj (Nat.not_lt_zero j)
structure Fr (a:Act) (b:Nat) (k:Int) (ok:Bool):Prop where
 size:a.tmps.size=272
 defers:a.defers=[]
 t1:a.tmps[1]?=some (.pointer (some ⟨b,0,none⟩))
 t3:a.tmps[3]?=some (.int .i64 k)
 t4:a.tmps[4]?=some (.bool ok)
theorem Fr.next {a a':Act} {b:Nat} {k:Int} {ok ok':Bool} (h:Fr a b k ok) (hd:a'.defers=a.defers) (hz:a'.tmps.size=272) (h1:a'.tmps[1]?=a.tmps[1]?) (h3:a'.tmps[3]?=a.tmps[3]?) (h4:a'.tmps[4]?=some (.bool ok')):Fr a' b k ok' :=
 ⟨hz,hd.trans h.defers,h1.trans h.t1,h3.trans h.t3,h4⟩
theorem Fr.stay {a a':Act} {b:Nat} {k:Int} {ok:Bool} (h:Fr a b k ok) (hd:a'.defers=a.defers) (hz:a'.tmps.size=272) (h1:a'.tmps[1]?=a.tmps[1]?) (h3:a'.tmps[3]?=a.tmps[3]?) (h4:a'.tmps[4]?=a.tmps[4]?):Fr a' b k ok :=
 h.next hd hz h1 h3 (h4.trans h.t4)
structure CkS (c:Cm) (b:Nat) (a1 a2 a3 a4 a5:Option Addr) (c1 c2 c3 c4 c5:Nat) (S:World→Prop):Prop where
 cell:∀ W,S W→∀ o x,(cmL c (.slice a1 c.cols.length c1) (.slice a2 c.vals.length c2) (.slice a3 c.fields.length c3) (.slice a4 c.expr.args.length c4) (.slice a5 c.wh.args.length c5))[o]?=some x→W.cell? ⟨b,o,none⟩=some x
 drew:∀ W,S W→S W.drew
 btw:∀ (n x y:Int) W,S W→Calls Tryz.prog 31 #[.int .i64 n,.int .i64 x,.int .i64 y] W fun e w'=>e=.returned (.bool (yaW n x y))∧S w'
 nmi:∀ (s:List UInt8) (p:Bool),s.length≤140737488355328→∀ W,S W→Calls Tryz.prog 32 #[.string ⟨s.toArray⟩,.bool p] W fun e w'=>e=.returned (.bool (yax s p))∧S w'
 nam:∀ s:List UInt8,s.length≤140737488355328→∀ W,S W→Calls Tryz.prog 34 #[.string ⟨s.toArray⟩] W fun e w'=>e=.returned (.bool (yan s))∧S w'
 ckv:∀ v:Vl,v.s.length≤140737488355328→∀ W,S W→Calls Tryz.prog 33 #[.agg #[.int .i64 v.k,.int .i64 v.n,.string ⟨v.s.toArray⟩]] W fun e w'=>e=.returned (.int .i64 ((ybT v.k v.n v.s:Nat):Int))∧S w'
 smv:∀ v:Vl,∀ W,S W→Calls Tryz.prog 25 #[.agg #[.int .i64 v.k,.int .i64 v.n,.string ⟨v.s.toArray⟩],.agg #[.int .i64 0,.int .i64 0,.string ⟨#[]⟩]] W fun e w'=>e=.returned (.bool (ybu v))∧S w'
 ixe:∀ W,S W→Calls Tryz.prog 35 #[.agg #[.int .i64 c.expr.k,.int .i64 c.expr.v.k,.int .i64 c.expr.v.n,.string ⟨c.expr.v.s.toArray⟩,.string ⟨c.expr.nm.toArray⟩,.slice a4 c.expr.args.length c4]] W fun e w'=>e=.returned (.bool (exR c.expr))∧S w'
 ixw:∀ W,S W→Calls Tryz.prog 35 #[.agg #[.int .i64 c.wh.k,.int .i64 c.wh.v.k,.int .i64 c.wh.v.n,.string ⟨c.wh.v.s.toArray⟩,.string ⟨c.wh.nm.toArray⟩,.slice a5 c.wh.args.length c5]] W fun e w'=>e=.returned (.bool (exR c.wh))∧S w'
 noe:∀ W,S W→Calls Tryz.prog 36 #[.agg #[.int .i64 c.expr.k,.int .i64 c.expr.v.k,.int .i64 c.expr.v.n,.string ⟨c.expr.v.s.toArray⟩,.string ⟨c.expr.nm.toArray⟩,.slice a4 c.expr.args.length c4]] W fun e w'=>e=.returned (.bool (ybe c.expr))∧S w'
 now:∀ W,S W→Calls Tryz.prog 36 #[.agg #[.int .i64 c.wh.k,.int .i64 c.wh.v.k,.int .i64 c.wh.v.n,.string ⟨c.wh.v.s.toArray⟩,.string ⟨c.wh.nm.toArray⟩,.slice a5 c.wh.args.length c5]] W fun e w'=>e=.returned (.bool (ybe c.wh))∧S w'
theorem ydD {P:Program} {fn:Func} {R:Ending→World→Prop} {a:Act} {w:World} {s:Nat} {v:Value} (hres:fn.results=#[.tmp s]) (hd:a.defers=[]) (hv:a.tmps[s]?=some v) (h:R (.returned v) w):bodyPost P fn R .ret a w:=by
 refine bodyPost_ret (results_tmp hres _ _ _) hd ?_
 have e:a.tmps.getD s undef=v:=by rw [Array.getD_eq_getD_getElem?,hv];rfl
 rw [e];exact h
theorem yuq {P:Program} {Q:Exit→Act→World→Prop} {a:Act} {w:World} {x y:Code} (e:x=y) (h:y.wp P Q a w):x.wp P Q a w:=by rw [e];exact h
noncomputable def cT8:Code:=.seq (.seq (.region 30 k30_R false) (.cond (.tmp 271) (.seq (.region 31 k31_R false) .ret) .skip)) (.seq (.region 32 k32_R false) .ret)
noncomputable def cT7:Code:=.seq (.seq (.region 27 k27_R false) (.cond (.tmp 248) (.region 28 k28_R false) (.region 29 k29_R false))) cT8
noncomputable def cT6:Code:=.seq (.seq (.region 24 k24_R false) (.cond (.tmp 229) (.region 25 k25_R false) (.region 26 k26_R false))) cT7
noncomputable def cT5:Code:=.seq (.seq (.region 22 k22_R false) (.cond (.tmp 211) (.region 23 k23_R false) .skip)) cT6
noncomputable def cB3:Code:=.block 4 (.loop (.seq (.seq (.region 19 k19_R false) (.cond (.tmp 198) .skip (.exit 4))) (.seq (.block 5 (.region 21 k21_R false)) (.region 20 k20_R false))))
noncomputable def cL3:Code:=.seq (.seq (.region 18 k18_R false) cB3) cT5
noncomputable def cB2:Code:=.block 2 (.loop (.seq (.seq (.region 15 k15_R false) (.cond (.tmp 181) .skip (.exit 2))) (.seq (.block 3 (.region 17 k17_R false)) (.region 16 k16_R false))))
noncomputable def cL2:Code:=.seq (.seq (.region 14 k14_R false) cB2) cL3
noncomputable def cB1:Code:=.block 0 (.loop (.seq (.seq (.region 11 k11_R false) (.cond (.tmp 155) .skip (.exit 0))) (.seq (.block 1 (.region 13 k13_R false)) (.region 12 k12_R false))))
noncomputable def cL1:Code:=.seq (.seq (.region 10 k10_R false) cB1) cL2
noncomputable def cT4:Code:=.seq (.region 9 k9_R false) cL1
noncomputable def cT3:Code:=.seq (.region 8 k8_R false) cT4
noncomputable def cT2:Code:=.seq (.seq (.region 5 k5_R false) (.cond (.tmp 82) (.region 6 k6_R false) (.region 7 k7_R false))) cT3
noncomputable def cT1:Code:=.seq (.region 4 ckr_R true) cT2
noncomputable def cT0:Code:=.seq (.region 3 k3_R false) cT1
def yiT (ok:Bool):Value:=.int .i64 (if ok=true then 0 else 1)
abbrev Rw1 (c:Cm) (a1:Option Addr) (S:World→Prop):Prop:=0 < c.cols.length→∃ g o,a1=some ⟨g,o,none⟩∧∀ W,S W→∀ i x,c.cols[i]?=some x→W.cell? ⟨g,o+i*2,none⟩=some (.string ⟨x.name.toArray⟩)∧W.cell? ⟨g,o+i*2+1,none⟩=some (.int .i64 x.ty)
abbrev Rw2 (c:Cm) (a2:Option Addr) (S:World→Prop):Prop:=0 < c.vals.length→∃ g o,a2=some ⟨g,o,none⟩∧∀ W,S W→∀ i x,c.vals[i]?=some x→W.cell? ⟨g,o+i*3,none⟩=some (.int .i64 x.k)∧W.cell? ⟨g,o+i*3+1,none⟩=some (.int .i64 x.n)∧W.cell? ⟨g,o+i*3+2,none⟩=some (.string ⟨x.s.toArray⟩)
abbrev Rw3 (c:Cm) (a3:Option Addr) (S:World→Prop):Prop:=0 < c.fields.length→∃ g o,a3=some ⟨g,o,none⟩∧∀ W,S W→∀ i x,c.fields[i]?=some x→W.cell? ⟨g,o+i,none⟩=some (.string ⟨x.toArray⟩)
def yq9 (a:Act) (s:Nat):Nat:=match a.tmps[s]? with|some x=>(intOf x).toNat|none=>0
theorem ykx (d:Nat) (h:some d ∉ ckr_d) {n:Nat} {V:Nat→Value}:∀ p ∈ ckr_d.zip ((List.range n).map V),p.1≠some d:=by
 intro p hp e
 have:=(List.of_mem_zip (a:=p.1) (b:=p.2) hp).1
 rw [e] at this
 exact h this
section
variable {c:Cm} {b:Nat} {a1 a2 a3 a4 a5:Option Addr} {c1 c2 c3 c4 c5:Nat} {S:World→Prop} {R:Ending→World→Prop} {a:Act} {w:World} {ok:Bool}
theorem st8 (h:Fr a b c.kind ok) (hS:S w) (hR:∀ w',S w'→R (.returned (yiT ok)) w'):cT8.wp Tryz.prog (bodyPost Tryz.prog Tryz.f13 R) a w:=by
 unfold cT8
 refine wp_seq (wp_seq ?_)
 refine ysk (S:=S) h.t4 h.size hS ?_
 intro x w1 hS1 hd hz hn ho
 have g:Fr x b c.kind ok:=h.stay hd hz (ho 1 (by decide)) (ho 3 (by decide)) (ho 4 (by decide))
 refine wp_cond_split (t:=!ok) (ybI (hn 1 271 rfl)) (fun ht=>?_) (fun ht=>?_)
 ·refine wp_seq ?_
  refine ysl (S:=S) g.size hS1 ?_
  intro y w2 hS2 hd2 _ hn2 _
  refine wp_ret ?_
  refine ydD (v:=.int .i64 1) rfl (hd2.trans g.defers) (hn2 0 2 rfl) ?_
  have:=hR w2 hS2
  have e:ok=false:=by simpa using ht
  rw [e] at this
  exact this
 ·refine wp_skip ?_
  refine wp_seq ?_
  refine ysm (S:=S) g.size hS1 ?_
  intro y w2 hS2 hd2 _ hn2 _
  refine wp_ret ?_
  refine ydD (v:=.int .i64 0) rfl (hd2.trans g.defers) (hn2 0 2 rfl) ?_
  have:=hR w2 hS2
  have e:ok=true:=by simpa using ht
  rw [e] at this
  exact this
def f7 (c:Cm) (ok:Bool):Bool:=if (yaW c.kind 11 13&&!c.all)=true then ok&&exR c.wh else (ok&&ybe c.wh)&&(yaW c.kind 11 13 || !c.all)
theorem st7 (k:CkS c b a1 a2 a3 a4 a5 c1 c2 c3 c4 c5 S) (h:Fr a b c.kind ok) (hS:S w) (hR:∀ w',S w'→R (.returned (yiT (f7 c ok))) w'):cT7.wp Tryz.prog (bodyPost Tryz.prog Tryz.f13 R) a w:=by
 unfold cT7
 refine wp_seq (wp_seq ?_)
 refine ysh (S:=S) h.t1 h.t3 k.cell (k.btw _ _ _) h.size hS ?_
 intro x w1 hS1 hd hz hn ho
 have g:Fr x b c.kind ok:=h.stay hd hz (ho 1 (by decide)) (ho 3 (by decide)) (ho 4 (by decide))
 refine wp_cond_split (t:=yaW c.kind 11 13&&!c.all) (ybI (hn 6 248 rfl)) (fun ht=>?_) (fun ht=>?_)
 ·refine ysi (S:=S) g.t1 g.t4 k.cell k.ixw g.size hS1 ?_
  intro y w2 hS2 hd2 hz2 hn2 ho2
  exact st8 (g.next hd2 hz2 (ho2 1 (by decide)) (ho2 3 (by decide)) (hn2 6 4 rfl)) hS2 (by simpa only [f7,if_pos ht] using hR)
 ·refine ysj (S:=S) g.t1 g.t3 g.t4 k.cell k.now (k.btw _ _ _) g.size hS1 ?_
  intro y w2 hS2 hd2 hz2 hn2 ho2
  exact st8 (g.next hd2 hz2 (ho2 1 (by decide)) (ho2 3 (by decide)) (hn2 15 4 rfl)) hS2 (by simpa only [f7,if_neg (show ¬ (yaW c.kind 11 13&&!c.all)=true by rw [ht];decide)] using hR)
def f6 (c:Cm) (ok:Bool):Bool:=f7 c (if c.kind=12 then ok&&exR c.expr else ok&&ybe c.expr)
theorem st6 (k:CkS c b a1 a2 a3 a4 a5 c1 c2 c3 c4 c5 S) (h:Fr a b c.kind ok) (hS:S w) (hR:∀ w',S w'→R (.returned (yiT (f6 c ok))) w'):cT6.wp Tryz.prog (bodyPost Tryz.prog Tryz.f13 R) a w:=by
 unfold cT6
 refine wp_seq (wp_seq ?_)
 refine yse (S:=S) h.t3 h.size hS ?_
 intro x w1 hS1 hd hz hn ho
 have g:Fr x b c.kind ok:=h.stay hd hz (ho 1 (by decide)) (ho 3 (by decide)) (ho 4 (by decide))
 refine wp_cond_split (t:=decide (c.kind=12)) (ybI (hn 1 229 rfl)) (fun ht=>?_) (fun ht=>?_)
 ·refine ysf (S:=S) g.t1 g.t4 k.cell k.ixe g.size hS1 ?_
  intro y w2 hS2 hd2 hz2 hn2 ho2
  exact st7 k (g.next hd2 hz2 (ho2 1 (by decide)) (ho2 3 (by decide)) (hn2 6 4 rfl)) hS2 (by simpa only [f6,if_pos (of_decide_eq_true ht)] using hR)
 ·refine ysg (S:=S) g.t1 g.t4 k.cell k.noe g.size hS1 ?_
  intro y w2 hS2 hd2 hz2 hn2 ho2
  exact st7 k (g.next hd2 hz2 (ho2 1 (by decide)) (ho2 3 (by decide)) (hn2 6 4 rfl)) hS2 (by simpa only [f6,if_neg (of_decide_eq_false ht)] using hR)
def f5 (c:Cm) (ok:Bool):Bool:=f6 c (if c.kind=13 then (ok&&yaW c.limit (-1) 999999999)&&(decide (c.order=[]) || yan c.order) else ok)
theorem st5 (k:CkS c b a1 a2 a3 a4 a5 c1 c2 c3 c4 c5 S) (hf:CmFit c) (h:Fr a b c.kind ok) (hS:S w) (hR:∀ w',S w'→R (.returned (yiT (f5 c ok))) w'):cT5.wp Tryz.prog (bodyPost Tryz.prog Tryz.f13 R) a w:=by
 unfold cT5
 refine wp_seq (wp_seq ?_)
 refine ysc (S:=S) h.t3 h.size hS ?_
 intro x w1 hS1 hd hz hn ho
 have g:Fr x b c.kind ok:=h.stay hd hz (ho 1 (by decide)) (ho 3 (by decide)) (ho 4 (by decide))
 refine wp_cond_split (t:=decide (c.kind=13)) (ybI (hn 1 211 rfl)) (fun ht=>?_) (fun ht=>?_)
 ·refine ysd (S:=S) g.t1 g.t4 k.cell (k.btw _ _ _) (k.nam _ hf.order) g.size hS1 ?_
  intro y w2 hS2 hd2 hz2 hn2 ho2
  exact st6 k (g.next hd2 hz2 (ho2 1 (by decide)) (ho2 3 (by decide)) (hn2 16 4 rfl)) hS2 (by simpa only [f5,if_pos (of_decide_eq_true ht)] using hR)
 ·refine wp_skip ?_
  exact st6 k g hS1 (by simpa only [f5,if_neg (of_decide_eq_false ht)] using hR)
def fL3 (c:Cm) (ok:Bool):Bool:=f5 c (ok&&c.fields.all yan)
theorem lp3 {Q:Exit→Act→World→Prop} (k:CkS c b a1 a2 a3 a4 a5 c1 c2 c3 c4 c5 S) (hf:CmFit c)
  (hrows:0 < c.fields.length→∃ g o,a3=some ⟨g,o,none⟩∧∀ W,S W→∀ i x,c.fields[i]?=some x→W.cell? ⟨g,o+i,none⟩=some (.string ⟨x.toArray⟩))
  (h:Fr a b c.kind ok) (h5:a.tmps[7]?=some (.int .i64 0)) (hS:S w)
  (hq:∀ a' w',Fr a' b c.kind (ok&&c.fields.all yan)→S w'→Q .normal a' w'):cB3.wp Tryz.prog Q a w:=by
 unfold cB3
 refine wp_block ?_
 refine wp_loop (fun a w=>∃ i:Nat,i≤c.fields.length∧Fr a b c.kind (ok&&(c.fields.take i).all yan)∧a.tmps[7]?=some (.int .i64 (i:Int))∧S w) (fun a _=>c.fields.length - yq9 a 7) ⟨0,Nat.zero_le _,by simpa using h,h5,hS⟩ ?_
 rintro a w ⟨i,hi,h,h5,hS⟩
 refine wp_seq (wp_seq ?_)
 refine yr9 (S:=S) h.t1 h5 k.cell h.size hS ?_
 intro y w1 hS1 hd hz hn ho
 have g1:=h.stay hd hz (ho 1 (by decide)) (ho 3 (by decide)) (ho 4 (by decide))
 have g5:y.tmps[7]?=some (.int .i64 (i:Int)):=(ho 7 (by decide)).trans h5
 refine wp_cond_split (t:=decide ((i:Int) < ((c.fields.length:Nat):Int))) (ybI (hn 4 198 rfl)) (fun ht=>?_) (fun ht=>?_)
 ·have hlt:i < c.fields.length:=by have:=of_decide_eq_true ht;omega
  refine wp_skip ?_
  refine wp_seq ?_
  refine wp_block ?_
  obtain ⟨x,hx⟩:∃ x,c.fields[i]?=some x:=⟨c.fields[i]'hlt,List.getElem?_eq_getElem hlt⟩
  obtain ⟨g,o,rfl,hrow⟩:=hrows (by omega)
  refine ysb (S:=S) (g:=g) (o:=o) (x:=x) g1.t1 g1.t4 g5 k.cell hlt (fun W hW=>hrow W hW i x hx) (k.nam _ (hf.fieldsN x (List.mem_of_getElem? hx))) g1.size hS1 ?_
  intro z w2 hS2 hd2 hz2 hn2 ho2
  have g2:Fr z b c.kind ((ok&&(c.fields.take i).all yan)&&yan x):=g1.next hd2 hz2 (ho2 1 (by decide)) (ho2 3 (by decide)) (hn2 9 4 rfl)
  have g6:z.tmps[7]?=some (.int .i64 (i:Int)):=(ho2 7 (by decide)).trans g5
  have hfew:=hf.fields
  refine ysa (S:=S) g6 (by omega) g2.size hS2 ?_
  intro v w3 hS3 hd3 hz3 hn3 ho3
  have g7:v.tmps[7]?=some (.int .i64 ((i+1:Nat):Int)):=hn3 2 7 rfl
  refine ⟨⟨i+1,by omega, ?_,g7,hS3⟩, ?_⟩
  ·have g3:=g2.stay hd3 hz3 (ho3 1 (by decide)) (ho3 3 (by decide)) (ho3 4 (by decide))
   have e:(ok&&(c.fields.take (i+1)).all yan)=((ok&&(c.fields.take i).all yan)&&yan x):=by
    rw [List.take_add_one,hx]
    simp [List.all_append,Bool.and_assoc]
   rw [e];exact g3
  ·simp only [yq9,g7,h5,intOf,Int.toNat_natCast];omega
 ·have hlt:¬ i < c.fields.length:=by have:=of_decide_eq_false ht;omega
  refine wp_exit ?_
  show Q .normal y w1
  refine hq y w1 ?_ hS1
  rw [List.take_of_length_le (by omega)] at g1
  exact g1
theorem sl3 (k:CkS c b a1 a2 a3 a4 a5 c1 c2 c3 c4 c5 S) (hf:CmFit c)
  (h3:Rw3 c a3 S)
  (h:Fr a b c.kind ok) (hS:S w) (hR:∀ w',S w'→R (.returned (yiT (fL3 c ok))) w'):cL3.wp Tryz.prog (bodyPost Tryz.prog Tryz.f13 R) a w:=by
 unfold cL3
 refine wp_seq (wp_seq ?_)
 refine yr8 (S:=S) h.size hS ?_
 intro y w1 hS1 hd hz hn ho
 have g:=h.stay hd hz (ho 1 (by decide)) (ho 3 (by decide)) (ho 4 (by decide))
 refine lp3 k hf h3 g (hn 0 7 rfl) hS1 ?_
 intro a' w' g' hS'
 exact st5 k hf g' hS' (by simpa only [fL3] using hR)
def fL2 (c:Cm) (ok:Bool):Bool:=fL3 c (ok&&c.vals.all ybJ)
theorem lp2 {Q:Exit→Act→World→Prop} (k:CkS c b a1 a2 a3 a4 a5 c1 c2 c3 c4 c5 S) (hf:CmFit c)
  (hrows:0 < c.vals.length→∃ g o,a2=some ⟨g,o,none⟩∧∀ W,S W→∀ i x,c.vals[i]?=some x→W.cell? ⟨g,o+i*3,none⟩=some (.int .i64 x.k)∧W.cell? ⟨g,o+i*3+1,none⟩=some (.int .i64 x.n)∧W.cell? ⟨g,o+i*3+2,none⟩=some (.string ⟨x.s.toArray⟩))
  (h:Fr a b c.kind ok) (h5:a.tmps[6]?=some (.int .i64 0)) (hS:S w)
  (hq:∀ a' w',Fr a' b c.kind (ok&&c.vals.all ybJ)→S w'→Q .normal a' w'):cB2.wp Tryz.prog Q a w:=by
 unfold cB2
 refine wp_block ?_
 refine wp_loop (fun a w=>∃ i:Nat,i≤c.vals.length∧Fr a b c.kind (ok&&(c.vals.take i).all ybJ)∧a.tmps[6]?=some (.int .i64 (i:Int))∧S w) (fun a _=>c.vals.length - yq9 a 6) ⟨0,Nat.zero_le _,by simpa using h,h5,hS⟩ ?_
 rintro a w ⟨i,hi,h,h5,hS⟩
 refine wp_seq (wp_seq ?_)
 refine yr5 (S:=S) h.t1 h5 k.cell h.size hS ?_
 intro y w1 hS1 hd hz hn ho
 have g1:=h.stay hd hz (ho 1 (by decide)) (ho 3 (by decide)) (ho 4 (by decide))
 have g5:y.tmps[6]?=some (.int .i64 (i:Int)):=(ho 6 (by decide)).trans h5
 refine wp_cond_split (t:=decide ((i:Int) < ((c.vals.length:Nat):Int))) (ybI (hn 4 181 rfl)) (fun ht=>?_) (fun ht=>?_)
 ·have hlt:i < c.vals.length:=by have:=of_decide_eq_true ht;omega
  refine wp_skip ?_
  refine wp_seq ?_
  refine wp_block ?_
  obtain ⟨x,hx⟩:∃ x,c.vals[i]?=some x:=⟨c.vals[i]'hlt,List.getElem?_eq_getElem hlt⟩
  obtain ⟨g,o,rfl,hrow⟩:=hrows (by omega)
  refine yr7 (S:=S) (g:=g) (o:=o) (x:=x) g1.t1 g1.t4 g5 k.cell hlt (fun W hW=>(hrow W hW i x hx).1) (fun W hW=>(hrow W hW i x hx).2.1) (fun W hW=>(hrow W hW i x hx).2.2) (k.ckv _ (hf.valsN x (List.mem_of_getElem? hx))) g1.size hS1 ?_
  intro z w2 hS2 hd2 hz2 hn2 ho2
  have g2:Fr z b c.kind ((ok&&(c.vals.take i).all ybJ)&&decide (((ybT x.k x.n x.s:Nat):Int)=0)):=g1.next hd2 hz2 (ho2 1 (by decide)) (ho2 3 (by decide)) (hn2 10 4 rfl)
  have g6:z.tmps[6]?=some (.int .i64 (i:Int)):=(ho2 6 (by decide)).trans g5
  have hfew:=hf.vals
  refine yr6 (S:=S) g6 (by omega) g2.size hS2 ?_
  intro v w3 hS3 hd3 hz3 hn3 ho3
  have g7:v.tmps[6]?=some (.int .i64 ((i+1:Nat):Int)):=hn3 2 6 rfl
  refine ⟨⟨i+1,by omega, ?_,g7,hS3⟩, ?_⟩
  ·have g3:=g2.stay hd3 hz3 (ho3 1 (by decide)) (ho3 3 (by decide)) (ho3 4 (by decide))
   have e:(ok&&(c.vals.take (i+1)).all ybJ)=((ok&&(c.vals.take i).all ybJ)&&decide (((ybT x.k x.n x.s:Nat):Int)=0)):=by
    rw [List.take_add_one,hx]
    simp [List.all_append,Bool.and_assoc,ybJ]
   rw [e];exact g3
  ·simp only [yq9,g7,h5,intOf,Int.toNat_natCast];omega
 ·have hlt:¬ i < c.vals.length:=by have:=of_decide_eq_false ht;omega
  refine wp_exit ?_
  show Q .normal y w1
  refine hq y w1 ?_ hS1
  rw [List.take_of_length_le (by omega)] at g1
  exact g1
theorem sl2 (k:CkS c b a1 a2 a3 a4 a5 c1 c2 c3 c4 c5 S) (hf:CmFit c)
  (h2:Rw2 c a2 S)
  (h3:Rw3 c a3 S)
  (h:Fr a b c.kind ok) (hS:S w) (hR:∀ w',S w'→R (.returned (yiT (fL2 c ok))) w'):cL2.wp Tryz.prog (bodyPost Tryz.prog Tryz.f13 R) a w:=by
 unfold cL2
 refine wp_seq (wp_seq ?_)
 refine yr4 (S:=S) h.size hS ?_
 intro y w1 hS1 hd hz hn ho
 have g:=h.stay hd hz (ho 1 (by decide)) (ho 3 (by decide)) (ho 4 (by decide))
 refine lp2 k hf h2 g (hn 0 6 rfl) hS1 ?_
 intro a' w' g' hS'
 exact sl3 k hf h3 g' hS' (by simpa only [fL2] using hR)
def fL1 (c:Cm) (ok:Bool):Bool:=fL2 c (ok&&c.cols.all (fun x=>yan x.name&&yaW x.ty 1 3))
theorem lp1 {Q:Exit→Act→World→Prop} (k:CkS c b a1 a2 a3 a4 a5 c1 c2 c3 c4 c5 S) (hf:CmFit c)
  (hrows:0 < c.cols.length→∃ g o,a1=some ⟨g,o,none⟩∧∀ W,S W→∀ i x,c.cols[i]?=some x→W.cell? ⟨g,o+i*2,none⟩=some (.string ⟨x.name.toArray⟩)∧W.cell? ⟨g,o+i*2+1,none⟩=some (.int .i64 x.ty))
  (h:Fr a b c.kind ok) (h5:a.tmps[5]?=some (.int .i64 0)) (hS:S w)
  (hq:∀ a' w',Fr a' b c.kind (ok&&c.cols.all (fun x=>yan x.name&&yaW x.ty 1 3))→S w'→Q .normal a' w'):cB1.wp Tryz.prog Q a w:=by
 unfold cB1
 refine wp_block ?_
 refine wp_loop (fun a w=>∃ i:Nat,i≤c.cols.length∧Fr a b c.kind (ok&&(c.cols.take i).all (fun x=>yan x.name&&yaW x.ty 1 3))∧a.tmps[5]?=some (.int .i64 (i:Int))∧S w) (fun a _=>c.cols.length - yq9 a 5) ⟨0,Nat.zero_le _,by simpa using h,h5,hS⟩ ?_
 rintro a w ⟨i,hi,h,h5,hS⟩
 refine wp_seq (wp_seq ?_)
 refine yr1 (S:=S) h.t1 h5 k.cell h.size hS ?_
 intro y w1 hS1 hd hz hn ho
 have g1:=h.stay hd hz (ho 1 (by decide)) (ho 3 (by decide)) (ho 4 (by decide))
 have g5:y.tmps[5]?=some (.int .i64 (i:Int)):=(ho 5 (by decide)).trans h5
 refine wp_cond_split (t:=decide ((i:Int) < ((c.cols.length:Nat):Int))) (ybI (hn 4 155 rfl)) (fun ht=>?_) (fun ht=>?_)
 ·have hlt:i < c.cols.length:=by have:=of_decide_eq_true ht;omega
  refine wp_skip ?_
  refine wp_seq ?_
  refine wp_block ?_
  obtain ⟨x,hx⟩:∃ x,c.cols[i]?=some x:=⟨c.cols[i]'hlt,List.getElem?_eq_getElem hlt⟩
  obtain ⟨g,o,rfl,hrow⟩:=hrows (by omega)
  refine yr3 (S:=S) (g:=g) (o:=o) (x:=x) g1.t1 g1.t4 g5 k.cell hlt (fun W hW=>by have:=hrow W hW i x hx;exact this.1) (fun W hW=>(hrow W hW i x hx).2) (k.nam _ (hf.colsN x (List.mem_of_getElem? hx))) (k.btw _ _ _) g1.size hS1 ?_
  intro z w2 hS2 hd2 hz2 hn2 ho2
  have g2:Fr z b c.kind (((ok&&(c.cols.take i).all (fun x=>yan x.name&&yaW x.ty 1 3))&&yan x.name)&&yaW x.ty 1 3):=g1.next hd2 hz2 (ho2 1 (by decide)) (ho2 3 (by decide)) (hn2 19 4 rfl)
  have g6:z.tmps[5]?=some (.int .i64 (i:Int)):=(ho2 5 (by decide)).trans g5
  have hfew:=hf.cols
  refine yr2 (S:=S) g6 (by omega) g2.size hS2 ?_
  intro v w3 hS3 hd3 hz3 hn3 ho3
  have g7:v.tmps[5]?=some (.int .i64 ((i+1:Nat):Int)):=hn3 2 5 rfl
  refine ⟨⟨i+1,by omega, ?_,g7,hS3⟩, ?_⟩
  ·have g3:=g2.stay hd3 hz3 (ho3 1 (by decide)) (ho3 3 (by decide)) (ho3 4 (by decide))
   have e:(ok&&(c.cols.take (i+1)).all (fun x=>yan x.name&&yaW x.ty 1 3))=(((ok&&(c.cols.take i).all (fun x=>yan x.name&&yaW x.ty 1 3))&&yan x.name)&&yaW x.ty 1 3):=by
    rw [List.take_add_one,hx]
    simp [List.all_append,Bool.and_assoc]
   rw [e];exact g3
  ·simp only [yq9,g7,h5,intOf,Int.toNat_natCast];omega
 ·have hlt:¬ i < c.cols.length:=by have:=of_decide_eq_false ht;omega
  refine wp_exit ?_
  show Q .normal y w1
  refine hq y w1 ?_ hS1
  rw [List.take_of_length_le (by omega)] at g1
  exact g1
theorem sl1 (k:CkS c b a1 a2 a3 a4 a5 c1 c2 c3 c4 c5 S) (hf:CmFit c)
  (h1:Rw1 c a1 S)
  (h2:Rw2 c a2 S)
  (h3:Rw3 c a3 S)
  (h:Fr a b c.kind ok) (hS:S w) (hR:∀ w',S w'→R (.returned (yiT (fL1 c ok))) w'):cL1.wp Tryz.prog (bodyPost Tryz.prog Tryz.f13 R) a w:=by
 unfold cL1
 refine wp_seq (wp_seq ?_)
 refine yr0 (S:=S) h.size hS ?_
 intro y w1 hS1 hd hz hn ho
 have g:=h.stay hd hz (ho 1 (by decide)) (ho 3 (by decide)) (ho 4 (by decide))
 refine lp1 k hf h1 g (hn 0 5 rfl) hS1 ?_
 intro a' w' g' hS'
 exact sl2 k hf h2 h3 g' hS' (by simpa only [fL1] using hR)
def f4 (c:Cm) (ok:Bool):Bool:=fL1 c (((ok&&(decide (c.kind=1) == decide (0 < ((c.cols.length:Nat):Int))))&&(decide (c.kind=10) == decide (0 < ((c.vals.length:Nat):Int))))&&(decide (c.kind=13) || ((decide (((c.fields.length:Nat):Int)=0)&&decide (c.order=[]))&&decide (c.limit=0))))
theorem st4 (k:CkS c b a1 a2 a3 a4 a5 c1 c2 c3 c4 c5 S) (hf:CmFit c)
  (h1:Rw1 c a1 S)
  (h2:Rw2 c a2 S)
  (h3:Rw3 c a3 S)
  (h:Fr a b c.kind ok) (hS:S w) (hR:∀ w',S w'→R (.returned (yiT (f4 c ok))) w'):cT4.wp Tryz.prog (bodyPost Tryz.prog Tryz.f13 R) a w:=by
 unfold cT4
 refine wp_seq ?_
 refine yt7 (S:=S) h.t1 h.t3 h.t4 k.cell h.size hS ?_
 intro y w1 hS1 hd hz hn ho
 exact sl1 k hf h1 h2 h3 (h.next hd hz (ho 1 (by decide)) (ho 3 (by decide)) (hn 39 4 rfl)) hS1 (by simpa only [f4] using hR)
def f3 (c:Cm) (ok:Bool):Bool:=f4 c ((ok&&decide (((ybT c.val.k c.val.n c.val.s:Nat):Int)=0))&&(decide (c.kind=3) || ybu c.val))
theorem st3 (k:CkS c b a1 a2 a3 a4 a5 c1 c2 c3 c4 c5 S) (hf:CmFit c)
  (h1:Rw1 c a1 S)
  (h2:Rw2 c a2 S)
  (h3:Rw3 c a3 S)
  (h:Fr a b c.kind ok) (hS:S w) (hR:∀ w',S w'→R (.returned (yiT (f3 c ok))) w'):cT3.wp Tryz.prog (bodyPost Tryz.prog Tryz.f13 R) a w:=by
 unfold cT3
 refine wp_seq ?_
 refine yt6 (S:=S) h.t1 h.t3 h.t4 k.cell (k.ckv _ hf.val) (k.smv _) h.size hS ?_
 intro y w1 hS1 hd hz hn ho
 exact st4 k hf h1 h2 h3 (h.next hd hz (ho 1 (by decide)) (ho 3 (by decide)) (hn 17 4 rfl)) hS1 (by simpa only [f3] using hR)
def f2 (c:Cm) (ok:Bool):Bool:=f3 c (if (decide (c.kind=3) || decide (c.kind=6))=true then ok&&yaW c.ty 1 3 else ok&&decide (c.ty=0))
theorem st2 (k:CkS c b a1 a2 a3 a4 a5 c1 c2 c3 c4 c5 S) (hf:CmFit c)
  (h1:Rw1 c a1 S)
  (h2:Rw2 c a2 S)
  (h3:Rw3 c a3 S)
  (h:Fr a b c.kind ok) (hS:S w) (hR:∀ w',S w'→R (.returned (yiT (f2 c ok))) w'):cT2.wp Tryz.prog (bodyPost Tryz.prog Tryz.f13 R) a w:=by
 unfold cT2
 refine wp_seq (wp_seq ?_)
 refine yt3 (S:=S) h.t3 h.size hS ?_
 intro x w1 hS1 hd hz hn ho
 have g:Fr x b c.kind ok:=h.stay hd hz (ho 1 (by decide)) (ho 3 (by decide)) (ho 4 (by decide))
 refine wp_cond_split (t:=decide (c.kind=3) || decide (c.kind=6)) (ybI (hn 5 82 rfl)) (fun ht=>?_) (fun ht=>?_)
 ·refine yt4 (S:=S) g.t1 g.t4 k.cell (k.btw _ _ _) g.size hS1 ?_
  intro y w2 hS2 hd2 hz2 hn2 ho2
  exact st3 k hf h1 h2 h3 (g.next hd2 hz2 (ho2 1 (by decide)) (ho2 3 (by decide)) (hn2 6 4 rfl)) hS2 (by simpa only [f2,if_pos ht] using hR)
 ·refine yt5 (S:=S) g.t1 g.t4 k.cell g.size hS1 ?_
  intro y w2 hS2 hd2 hz2 hn2 ho2
  exact st3 k hf h1 h2 h3 (g.next hd2 hz2 (ho2 1 (by decide)) (ho2 3 (by decide)) (hn2 6 4 rfl)) hS2 (by simpa only [f2,if_neg (show ¬ (decide (c.kind=3) || decide (c.kind=6))=true by rw [ht];decide)] using hR)
def k1B (c:Cm):Bool:=(((yaW c.kind 1 16&&yax c.name (decide (c.kind≤13)))&&yax c.other ((decide (c.kind=5) || decide (c.kind=7)) || decide (c.kind=8)))&&yax c.column ((yaW c.kind 3 6 || decide (c.kind=8)) || decide (c.kind=12)))
theorem st1 (k:CkS c b a1 a2 a3 a4 a5 c1 c2 c3 c4 c5 S) (hf:CmFit c)
  (h1:Rw1 c a1 S)
  (h2:Rw2 c a2 S)
  (h3:Rw3 c a3 S)
  (hz:a.tmps.size=272) (hd:a.defers=[]) (t1:a.tmps[1]?=some (.pointer (some ⟨b,0,none⟩))) (t3:a.tmps[3]?=some (.int .i64 c.kind)) (hS:S w) (hR:∀ w',S w'→R (.returned (yiT (f2 c (k1B c)))) w'):cT1.wp Tryz.prog (bodyPost Tryz.prog Tryz.f13 R) a w:=by
 unfold cT1
 refine wp_seq ?_
 refine yrg (S:=S) t1 t3 k.cell (k.btw _ _ _) (k.nmi _ _ hf.name) (k.nmi _ _ hf.other) (k.btw _ _ _) (k.nmi _ _ hf.column) hz (k.drew _ hS) ?_
 intro w1 hS1
 refine st2 k hf h1 h2 h3 (ok:=k1B c) ⟨?_,hd, ?_, ?_, ?_⟩ hS1 hR
 ·rw [List.size_toArray,yh3];simpa using hz
 ·rw [List.getElem?_toArray,yeh _ _ 1 (ykx 1 (by decide))];simpa using t1
 ·rw [List.getElem?_toArray,yeh _ _ 3 (ykx 3 (by decide))];simpa using t3
 ·rw [List.getElem?_toArray,yio (n:=40) ygn rfl 39 4 rfl (by simp [hz])];rfl
theorem st0 (k:CkS c b a1 a2 a3 a4 a5 c1 c2 c3 c4 c5 S) (hf:CmFit c)
  (h1:Rw1 c a1 S)
  (h2:Rw2 c a2 S)
  (h3:Rw3 c a3 S)
  (hz:a.tmps.size=272) (hd:a.defers=[]) (t1:a.tmps[1]?=some (.pointer (some ⟨b,0,none⟩))) (hS:S w) (hR:∀ w',S w'→R (.returned (yiT (f2 c (k1B c)))) w'):cT0.wp Tryz.prog (bodyPost Tryz.prog Tryz.f13 R) a w:=by
 unfold cT0
 refine wp_seq ?_
 refine yt2 (S:=S) t1 k.cell hz hS ?_
 intro y w1 hS1 hd1 hz1 hn ho
 exact st1 k hf h1 h2 h3 hz1 (hd1.trans hd) ((ho 1 (by decide)).trans t1) (hn 2 3 rfl) hS1 hR
end
theorem ynd (P1 P2 P3 P4:Prop) [Decidable P1] [Decidable P2] [Decidable P3] [Decidable P4] (K T1 T2 V1 V2 L1 L2 L3 A1 A2 A3 S1 S2 X1 X2 X3 X4 Y:Bool) :
  (if P4 then (if P3 then (if P2 then ((((((((((if P1 then K&&T1 else K&&T2)&&V1)&&V2)&&L1)&&L2)&&L3)&&A1)&&A2)&&A3)&&S1)&&S2 else (((((((((if P1 then K&&T1 else K&&T2)&&V1)&&V2)&&L1)&&L2)&&L3)&&A1)&&A2)&&A3))&&X1 else (if P2 then ((((((((((if P1 then K&&T1 else K&&T2)&&V1)&&V2)&&L1)&&L2)&&L3)&&A1)&&A2)&&A3)&&S1)&&S2 else (((((((((if P1 then K&&T1 else K&&T2)&&V1)&&V2)&&L1)&&L2)&&L3)&&A1)&&A2)&&A3))&&X3)&&X2 else ((if P3 then (if P2 then ((((((((((if P1 then K&&T1 else K&&T2)&&V1)&&V2)&&L1)&&L2)&&L3)&&A1)&&A2)&&A3)&&S1)&&S2 else (((((((((if P1 then K&&T1 else K&&T2)&&V1)&&V2)&&L1)&&L2)&&L3)&&A1)&&A2)&&A3))&&X1 else (if P2 then ((((((((((if P1 then K&&T1 else K&&T2)&&V1)&&V2)&&L1)&&L2)&&L3)&&A1)&&A2)&&A3)&&S1)&&S2 else (((((((((if P1 then K&&T1 else K&&T2)&&V1)&&V2)&&L1)&&L2)&&L3)&&A1)&&A2)&&A3))&&X3)&&X4)&&Y)=(K&&(if P1 then T1 else T2)&&(V1&&V2)&&(L1&&L2&&L3)&&A1&&A2&&A3&&(if P2 then S1&&S2 else true)&&(if P3 then X1 else X3)&&(if P4 then X2 else X4&&Y)):=by
 by_cases g1:P1 <;> by_cases g2:P2 <;> by_cases g3:P3 <;> by_cases g4:P4 <;> simp [g1,g2,g3,g4,Bool.and_assoc]
theorem ypP (c:Cm):f2 c (k1B c)=ybF c:=by
 have e1:decide (0 < ((c.cols.length:Nat):Int))=decide (0 < c.cols.length):=by rw [decide_eq_decide];omega
 have e2:decide (0 < ((c.vals.length:Nat):Int))=decide (0 < c.vals.length):=by rw [decide_eq_decide];omega
 have e3:decide (((c.fields.length:Nat):Int)=0)=decide (c.fields.length=0):=by rw [decide_eq_decide];omega
 have e4:∀ v:Vl,decide (((ybT v.k v.n v.s:Nat):Int)=0)=ybJ v:=by intro v;unfold ybJ;rw [decide_eq_decide];omega
 have e5:(decide (c.kind=3) || decide (c.kind=6))=decide (c.kind=3∨c.kind=6):=by rw [Bool.decide_or]
 unfold f2 f3 f4 fL1 fL2 fL3 f5 f6 f7 k1B ybF
 rw [e1,e2,e3,e4,e5]
 simp only [decide_eq_true_eq]
 exact ynd _ _ _ _ _ _ _ _ _ _ _ _ _ _ _ _ _ _ _ _ _ _
theorem ysV {K:Act→World→Prop} {Q:Exit→Act→World→Prop} {a:Act} {w:World} (h:Q .ret a w):Exit.then K Q .ret a w:=h
structure H2 (w:World) (rb sb:Nat) (cs ds:List Value) (w':World):Prop where
 bel:Below w.heap.size w w'
 rk:w'.heap[rb]?=some (.cells cs.toArray 31)
 sk:w'.heap[sb]?=some (.cells ds.toArray 31)
theorem H2.below {w w1 w2:World} {rb sb:Nat} {cs ds:List Value} (h:H2 w rb sb cs ds w1) (k:Below w1.heap.size w1 w2):H2 w rb sb cs ds w2 :=
 ⟨h.bel.trans (k.mono h.bel.size),(k.block _ (ltS h.rk)).trans h.rk,(k.block _ (ltS h.sk)).trans h.sk⟩
theorem yoI (c y:Cm) (a1 a2 a3 a1' a2' a3':Option Addr) (c1 c2 c3 c1' c2' c3':Nat) (ea wa ea' wa':Value) (w:World) (sx sy:Bool)
  (h10:∀ W,Below w.heap.size w W→Calls Tryz.prog 26 #[exV c.expr.k c.expr.v c.expr.nm ea,exV y.expr.k y.expr.v y.expr.nm ea'] W fun e w'=>e=.returned (.bool sx)∧Below W.heap.size W w')
  (h11:∀ W,Below w.heap.size w W→Calls Tryz.prog 26 #[exV c.wh.k c.wh.v c.wh.nm wa,exV y.wh.k y.wh.v y.wh.nm wa'] W fun e w'=>e=.returned (.bool sy)∧Below W.heap.size W w')
  (hb:ygR c y sx sy=true) :
  Calls Tryz.prog 11 #[.agg (cmL c (.slice a1 c.cols.length c1) (.slice a2 c.vals.length c2) (.slice a3 c.fields.length c3) ea wa).toArray,.agg (cmL y (.slice a1' y.cols.length c1') (.slice a2' y.vals.length c2') (.slice a3' y.fields.length c3') ea' wa').toArray] w fun e w'=>e=.returned (.bool false)∧Below w.heap.size w w':=by
 have Q10:=yaa h10
 have Q11:=yaa h11
 clear h10 h11
 go_enter Tryz.func11,Tryz.ntmps11
 refine wp_seq_k (fun K hK=>?_)
 have HK:=yaa hK
 clear hK
 go_wp2_with (first|(refine yah 2 31 _ (cmL c (.slice a1 c.cols.length c1) (.slice a2 c.vals.length c2) (.slice a3 c.fields.length c3) ea wa) rfl rfl rfl rfl ?_;intro W0 rb hrb k0 b0)|(refine yah 3 31 _ (cmL y (.slice a1' y.cols.length c1') (.slice a2' y.vals.length c2') (.slice a3' y.fields.length c3') ea' wa') rfl rfl rfl rfl ?_;intro W1 sb hsb j1 b1))
 refine HK.out _ _ ?_
 have hh:H2 w rb sb (cmL c (.slice a1 c.cols.length c1) (.slice a2 c.vals.length c2) (.slice a3 c.fields.length c3) ea wa) (cmL y (.slice a1' y.cols.length c1') (.slice a2' y.vals.length c2') (.slice a3' y.fields.length c3') ea' wa') W1:=⟨b0.trans (b1.mono b0.size),(b1.block rb (ltS k0)).trans k0,j1⟩
 refine wp_seq (wp_seq ?_)
 refine yaT s1_R (by kernel_rfl) ?_
 refine yui (c:=c) (y:=y) (sx:=sx) (sy:=sy) (rb:=rb) (sb:=sb) (S:=H2 w rb sb (cmL c (.slice a1 c.cols.length c1) (.slice a2 c.vals.length c2) (.slice a3 c.fields.length c3) ea wa) (cmL y (.slice a1' y.cols.length c1') (.slice a2' y.vals.length c2') (.slice a3' y.fields.length c3') ea' wa')) rfl rfl (fun W h o x hx=>by rw [Lib.cell_of_heap h.rk];simpa using hx) (fun W h o x hx=>by rw [Lib.cell_of_heap h.sk];simpa using hx) (fun W h=>(yb7 c.val y.val W).mono fun e w' q=>⟨q.1,h.below q.2⟩) (fun W h=>(Q10.out W h.bel).mono fun e w' q=>⟨q.1,h.below q.2⟩) (fun W h=>(Q11.out W h.bel).mono fun e w' q=>⟨q.1,h.below q.2⟩) rfl hh ?_
 intro a' w' hS hd hz hn ho
 refine wp_cond (t:=true) (ybI ((hn 77 84 rfl).trans (by rw [← hb];rfl))) ?_
 refine wp_seq ?_
 refine yaT s2_R (by kernel_rfl) ?_
 refine yuj (S:=H2 w rb sb (cmL c (.slice a1 c.cols.length c1) (.slice a2 c.vals.length c2) (.slice a3 c.fields.length c3) ea wa) (cmL y (.slice a1' y.cols.length c1') (.slice a2' y.vals.length c2') (.slice a3' y.fields.length c3') ea' wa')) hz hS ?_
 intro a2 w2 hS2 hd2 hz2 hn2 ho2
 refine wp_ret ?_
 refine ysV ?_
 exact ydD (v:=.bool false) rfl (hd2.trans hd) (hn2 0 4 rfl) ⟨rfl,hS2.bel⟩
theorem yh7 (c:Cm) (cl:List Cl) (vl:List Vl) (fl:List (List UInt8)) (cv vv fv ea wa cv' vv' fv' ea' wa':Value) (w:World) (h:CmIn 0 w c cv vv fv ea wa) (h':CmIn 0 w { c with cols:=cl,vals:=vl,fields:=fl } cv' vv' fv' ea' wa') (hf:CmFit c) (hf':CmFit { c with cols:=cl,vals:=vl,fields:=fl }) :
  Calls Tryz.prog 11 #[.agg (cmL c cv vv fv ea wa).toArray,.agg (cmL { c with cols:=cl,vals:=vl,fields:=fl } cv' vv' fv' ea' wa').toArray] w fun e w'=>(∃ b,e=.returned (.bool b)∧(b=true↔c.cols=cl∧c.vals=vl∧c.fields=fl))∧Below w.heap.size w w':=by
 obtain ⟨a1,c1,e1⟩:=h.cols.form
 obtain ⟨a2,c2,e2⟩:=h.vals.form
 obtain ⟨a3,c3,e3⟩:=h.fields.form
 obtain ⟨a1',c1',e1'⟩:=h'.cols.form
 obtain ⟨a2',c2',e2'⟩:=h'.vals.form
 obtain ⟨a3',c3',e3'⟩:=h'.fields.form
 subst e1 e2 e3 e1' e2' e3'
 have hsv:=yb7 c.val c.val
 have hq:eqV c.val c.val=true:=(ybx _ _).2 rfl
 rw [hq] at hsv
 have hse:∀ W,Below w.heap.size w W→Calls Tryz.prog 26 #[exV c.expr.k c.expr.v c.expr.nm ea,exV c.expr.k c.expr.v c.expr.nm ea'] W fun e w'=>e=.returned (.bool true)∧Below W.heap.size W w' :=
  fun W hW=>ydN _ c.expr c.expr _ _ w (Nat.le_refl _) h.expr h'.expr hf.expr true (by simp) W hW
 have hsw:∀ W,Below w.heap.size w W→Calls Tryz.prog 26 #[exV c.wh.k c.wh.v c.wh.nm wa,exV c.wh.k c.wh.v c.wh.nm wa'] W fun e w'=>e=.returned (.bool true)∧Below W.heap.size W w' :=
  fun W hW=>ydN _ c.wh c.wh _ _ w (Nat.le_refl _) h.wh h'.wh hf.wh true (by simp) W hW
 have hsl:∀ W,Below w.heap.size w W→Calls Tryz.prog 27 #[.slice a2 c.vals.length c2,.slice a2' vl.length c2'] W fun e w'=>(∃ b,e=.returned (.bool b)∧(b=true↔c.vals=vl))∧Below W.heap.size W w' :=
  fun W hW=>yjT c.vals vl _ _ W (h.vals.under hW) (h'.vals.under hW) hf.vals
 simp only [exV] at hse hsw
 have HC:Hid (∀ k x y,c.cols[k]?=some x→cl[k]?=some y→∃ g o g' o',a1=some ⟨g,o,none⟩∧a1'=some ⟨g',o',none⟩∧g < w.heap.size∧g' < w.heap.size∧(w.cell? ⟨g,o+k*2,none⟩=some (.string ⟨x.name.toArray⟩)∧w.cell? ⟨g,o+k*2+1,none⟩=some (.int .i64 x.ty))∧(w.cell? ⟨g',o'+k*2,none⟩=some (.string ⟨y.name.toArray⟩)∧w.cell? ⟨g',o'+k*2+1,none⟩=some (.int .i64 y.ty))):=by
  intro k x y hx hy
  obtain ⟨g,o,rfl,-,hg,hc⟩:=h.cols.spread (by have:=(List.getElem?_eq_some_iff.1 hx).1;omega)
  obtain ⟨g',o',rfl,-,hg',hc'⟩:=RowAt.spread (n:=cl.length) h'.cols (by have:=(List.getElem?_eq_some_iff.1 hy).1;omega)
  exact ⟨g,o,g',o',rfl,rfl,hg,hg',yf3 hc k x hx,yf3 hc' k y hy⟩
 have HF:Hid (∀ k x y,c.fields[k]?=some x→fl[k]?=some y→∃ g o g' o',a3=some ⟨g,o,none⟩∧a3'=some ⟨g',o',none⟩∧g < w.heap.size∧g' < w.heap.size∧w.cell? ⟨g,o+k,none⟩=some (.string ⟨x.toArray⟩)∧w.cell? ⟨g',o'+k,none⟩=some (.string ⟨y.toArray⟩)):=by
  intro k x y hx hy
  obtain ⟨g,o,rfl,-,hg,hc⟩:=h.fields.spread (by have:=(List.getElem?_eq_some_iff.1 hx).1;omega)
  obtain ⟨g',o',rfl,-,hg',hc'⟩:=RowAt.spread (n:=fl.length) h'.fields (by have:=(List.getElem?_eq_some_iff.1 hy).1;omega)
  exact ⟨g,o,g',o',rfl,rfl,hg,hg',yeM hc k x hx,yeM hc' k y hy⟩
 have n1:=hf.cols
 have n3:=hf.fields
 have HI:=yaa h.one
 have n1':=hf'.cols
 have n3':=hf'.fields
 simp only at n1' n3'
 clear h h' hf hf' hq
 go_enter Tryz.func11,Tryz.ntmps11
 go_wp2_with (first|(refine yah 2 31 _ (cmL c (.slice a1 c.cols.length c1) (.slice a2 c.vals.length c2) (.slice a3 c.fields.length c3) ea wa) rfl rfl rfl rfl ?_;intro W0 rb hrb k0 b0)|(refine yah 3 31 _ (cmL { c with cols:=cl,vals:=vl,fields:=fl } (.slice a1' cl.length c1') (.slice a2' vl.length c2') (.slice a3' fl.length c3') ea' wa') rfl rfl rfl rfl ?_;intro W1 sb hsb j1 b1;have k1:=(b1.block rb (ltS k0)).trans k0;have B1:Hid (Below w.heap.size w W1):=b0.trans (b1.mono b0.size);obtain ⟨pa0,pa1,pa2,pa3,pa4,pa5,pa6,pa7,pa8,pa9,pa10,pa11⟩:=ykq k1;obtain ⟨qa0,qa1,qa2,qa3,qa4,qa5,qa6,qa7,qa8,qa9,qa10,qa11⟩:=ykq j1)|(go_at_call 25;refine (hsv _).mono ?_;rintro e W2 ⟨rfl,b2⟩;have k2:=(b2.block rb (ltS k1)).trans k1;have j2:=(b2.block sb (ltS j1)).trans j1;obtain ⟨pb0,pb1,pb2,pb3,pb4,pb5,pb6,pb7,pb8,pb9,pb10,pb11,pb12,pb13,pb14⟩:=yo1 k2;obtain ⟨qb0,qb1,qb2,qb3,qb4,qb5,qb6,qb7,qb8,qb9,qb10,qb11,qb12,qb13,qb14⟩:=yo1 j2;have B2:Hid (Below w.heap.size w W2):=B1.out.trans (b2.mono B1.out.size)))
 refine (hse _ B2.out).mono ?_
 rintro e W3 ⟨rfl,b3⟩
 have k3:=(b3.block rb (ltS k2)).trans k2
 have j3:=(b3.block sb (ltS j2)).trans j2
 obtain ⟨pc0,pc1,pc2,pc3,pc4,pc5⟩:=yii k3
 obtain ⟨qc0,qc1,qc2,qc3,qc4,qc5⟩:=yii j3
 have B3:Hid (Below w.heap.size w W3):=B2.out.trans (b3.mono B2.out.size)
 go_wp2_with fail
 refine (hsw _ B3.out).mono ?_
 rintro e W4 ⟨rfl,b4⟩
 have k4:=(b4.block rb (ltS k3)).trans k3
 have j4:=(b4.block sb (ltS j3)).trans j3
 obtain ⟨pd0,pd1,pd2⟩:=yed k4
 obtain ⟨qd0,qd1,qd2⟩:=yed j4
 have B4:Hid (Below w.heap.size w W4):=B3.out.trans (b4.mono B3.out.size)
 by_cases l1:c.cols.length=cl.length
 ·by_cases l2:c.fields.length=fl.length
  ·have L1:=yaa l1
   have L2:=yaa l2
   simp only [← l1] at qd0 n1'
   simp only [← l2] at qd2 n3'
   clear l1 l2
   go_wp2_with fail
   refine (hsl _ B4.out).mono ?_
   rintro e W5 ⟨⟨b,rfl,hb⟩,b5⟩
   have k5:=(b5.block rb (ltS k4)).trans k4
   have j5:=(b5.block sb (ltS j4)).trans j4
   obtain ⟨pe0,pe1,pe2⟩:=yed k5
   obtain ⟨qe0,qe1,qe2⟩:=yed j5
   simp only [← L1.out] at qe0
   simp only [← L2.out] at qe2
   have B5:Hid (Below w.heap.size w W5):=B4.out.trans (b5.mono B4.out.size)
   have HB:=yaa B5.out
   clear hse hsw hsl hsv b0 b1 b2 b3 b4 b5 k0 k1 k2 k3 k4 j1 j2 j3 j4 HI
   clear pa0 pa1 pa2 pa3 pa4 pa5 pa6 pa7 pa8 pa9 pa10 pa11 qa0 qa1 qa2 qa3 qa4 qa5 qa6 qa7 qa8 qa9 qa10 qa11 pc0 pc1 pc2 pc3 pc4 pc5 qc0 qc1 qc2 qc3 qc4 qc5 pd0 pd1 pd2 qd0 qd1 qd2
   clear pb0 pb1 pb2 pb3 pb4 pb5 pb6 pb7 pb8 pb9 pb10 pb11 pb12 pb13 pb14 qb0 qb1 qb2 qb3 qb4 qb5 qb6 qb7 qb8 qb9 qb10 qb11 qb12 qb13 qb14
   clear B1 B2 B3 B4 B5
   have HBV:=yaa hb
   cases b with
   | false =>
    clear hb
    go_wp2
    all_goals go_ret
    all_goals exact ⟨⟨false,rfl,by simp;intro _ h;exact absurd (HBV.out.2 h) (by simp)⟩,HB.out⟩
   | true =>
   clear hb
   go_wp2
   obtain ⟨n,hn⟩:∃ n,c.cols.length=n:=⟨_,rfl⟩
   obtain ⟨m,hm⟩:∃ m,c.fields.length=m:=⟨_,rfl⟩
   have HNN:=yaa hn
   have HMM:=yaa hm
   rw [hn] at pe0 qe0 n1
   rw [hm] at pe2 qe2 n3
   clear hn hm
   go_loopw [5] (fun i wl=>∃ k:Nat,k≤n∧i=.int .i64 k∧Hid (∀ i,i < k→c.cols[i]?=cl[i]?)∧Hid (Below w.heap.size w wl)∧wl.cell? ⟨rb,4,none⟩=some (.slice a1 n c1)∧wl.cell? ⟨sb,4,none⟩=some (.slice a1' n c1')∧wl.cell? ⟨rb,10,none⟩=some (.slice a3 m c3)∧wl.cell? ⟨sb,10,none⟩=some (.slice a3' m c3')) (fun i _=>n - (intOf i).toNat)
   case atStart=>exact ⟨0,Nat.zero_le _,rfl,fun i hi=>absurd hi (Nat.not_lt_zero i),HB,pe0,qe0,pe2,qe2⟩
   case round =>
    obtain ⟨k,hk,rfl,HP,HN,x1,x2,x3,x4⟩:=hrel
    clear pe0 pe1 pe2 qe0 qe1 qe2 HB
    by_cases hlt:k < n
    ·obtain ⟨x,hx⟩:∃ x,c.cols[k]?=some x:=⟨c.cols[k]'(by have:=HNN.out;omega),List.getElem?_eq_getElem (by have:=HNN.out;omega)⟩
     obtain ⟨y,hy⟩:∃ y,cl[k]?=some y:=⟨cl[k]'(by have:=HNN.out;have:=L1.out;omega),List.getElem?_eq_getElem (by have:=HNN.out;have:=L1.out;omega)⟩
     obtain ⟨g,o,g',o',rfl,rfl,hg,hg',⟨r0,r1⟩,s0,s1⟩:=HC.out k x y hx hy
     have d0:=(HN.out.cell (p:=⟨g,o+k*2,none⟩) hg).trans r0
     have d1:=(HN.out.cell (p:=⟨g,o+k*2+1,none⟩) hg).trans r1
     have f0:=(HN.out.cell (p:=⟨g',o'+k*2,none⟩) hg').trans s0
     have f1:=(HN.out.cell (p:=⟨g',o'+k*2+1,none⟩) hg').trans s1
     have hq:=ysr x.name y.name x.ty y.ty
     have hlt':(k:Int) < (n:Int):=by omega
     by_cases exy:x=y
     ·have hs:ycW ⟨x.name,x.ty⟩ ⟨y.name,y.ty⟩=true:=by rw [exy];simp [ycW]
      rw [hs] at hq
      have HP':Hid (∀ i,i < k+1→c.cols[i]?=cl[i]?):=fun i hi=>by
       by_cases e:i=k
       ·rw [e,hx,hy,exy]
       ·exact HP.out i (by omega)
      clear r0 r1 s0 s1 hx hy hs HC exy
      go_wp2
      go_quiet (fail)
      go_wp2
      go_roundw
      case rel=>exact ⟨k+1,by omega,by go_num,HP',below_drewN HN.out _,x1,x2,x3,x4⟩
      case measure=>simp [intOf];omega
     ·have hs:ycW ⟨x.name,x.ty⟩ ⟨y.name,y.ty⟩=false:=by
       cases hh:ycW ⟨x.name,x.ty⟩ ⟨y.name,y.ty⟩ with
       | false=>rfl
       | true =>
        simp [ycW] at hh
        exact absurd (by obtain ⟨n1,t1⟩:=x;obtain ⟨n2,t2⟩:=y;simp only at hh;rw [hh.1,hh.2]) exy
      rw [hs] at hq
      have HD:Hid (c.cols≠cl):=fun e=>exy (Option.some.inj (by rw [← hx,← hy,e]))
      clear r0 r1 s0 s1 hx hy hs HC exy
      go_wp2
      go_quiet (fail)
      go_wp2
      go_ret
      exact ⟨⟨false,rfl,by simp;intro h;exact absurd h HD.out⟩,below_drewN HN.out _⟩
    ·have HCC:Hid (c.cols=cl):=List.ext_getElem? fun i=>by
      by_cases hi:i < n
      ·exact HP.out i (by omega)
      ·rw [List.getElem?_eq_none (by have:=HNN.out;omega),List.getElem?_eq_none (by have:=HNN.out;have:=L1.out;omega)]
     clear HC
     go_wp2
     go_loopw [6] (fun i wl=>∃ k:Nat,k≤m∧i=.int .i64 k∧Hid (∀ i,i < k→c.fields[i]?=fl[i]?)∧Hid (Below w.heap.size w wl)∧wl.cell? ⟨rb,10,none⟩=some (.slice a3 m c3)∧wl.cell? ⟨sb,10,none⟩=some (.slice a3' m c3')) (fun i _=>m - (intOf i).toNat)
     case atStart=>exact ⟨0,Nat.zero_le _,rfl,fun i hi=>absurd hi (Nat.not_lt_zero i),HN,x3,x4⟩
     case round =>
      obtain ⟨k,hk,rfl,HP2,HM,y3,y4⟩:=hrel
      clear x1 x2 x3 x4 HN
      by_cases hlt:k < m
      ·obtain ⟨x,hx⟩:∃ x,c.fields[k]?=some x:=⟨c.fields[k]'(by have:=HMM.out;omega),List.getElem?_eq_getElem (by have:=HMM.out;omega)⟩
       obtain ⟨y,hy⟩:∃ y,fl[k]?=some y:=⟨fl[k]'(by have:=HMM.out;have:=L2.out;omega),List.getElem?_eq_getElem (by have:=HMM.out;have:=L2.out;omega)⟩
       obtain ⟨g,o,g',o',rfl,rfl,hg,hg',r0,s0⟩:=HF.out k x y hx hy
       have d0:=(HM.out.cell (p:=⟨g,o+k,none⟩) hg).trans r0
       have f0:=(HM.out.cell (p:=⟨g',o'+k,none⟩) hg').trans s0
       have hlt':(k:Int) < (m:Int):=by omega
       by_cases exy:x=y
       ·have HP':Hid (∀ i,i < k+1→c.fields[i]?=fl[i]?):=fun i hi=>by
         by_cases e:i=k
         ·rw [e,hx,hy,exy]
         ·exact HP2.out i (by omega)
        rw [← exy] at f0
        clear r0 s0 hx hy HF exy
        go_wp2
        go_quiet (fail)
        go_wp2
        go_roundw
        case rel=>exact ⟨k+1,by omega,by go_num,HP',below_drewN HM.out _,y3,y4⟩
        case measure=>simp [intOf];omega
       ·have ne1:=ycJ exy
        have ne2:(x == y)=false:=beq_eq_false_iff_ne.2 exy
        have HD:Hid (c.fields≠fl):=fun e=>exy (Option.some.inj (by rw [← hx,← hy,e]))
        clear r0 s0 hx hy HF exy
        go_wp2
        go_quiet (fail)
        go_wp2
        go_ret
        exact ⟨⟨false,rfl,by simp;intro _ _ h;exact absurd h HD.out⟩,below_drewN HM.out _⟩
      ·have HFF:Hid (c.fields=fl):=List.ext_getElem? fun i=>by
        by_cases hi:i < m
        ·exact HP2.out i (by omega)
        ·rw [List.getElem?_eq_none (by have:=HMM.out;omega),List.getElem?_eq_none (by have:=HMM.out;have:=L2.out;omega)]
       clear HF
       go_wp2
       go_ret
       exact ⟨⟨true,rfl,by simp;exact ⟨HCC.out,HBV.out.1 trivial,HFF.out⟩⟩,HM.out⟩
  ·have l2':((c.fields.length:Int) == (fl.length:Int))=false:=by rw [beq_eq_false_iff_ne];omega
   have l3:(c.fields.length == fl.length)=false:=by simpa using l2
   have L1:=yaa l1
   have L2:=yaa l2
   simp only [← l1] at qd0 n1'
   clear l1 l2 hse hsw hsl hsv
   go_wp2
   go_ret
   exact ⟨⟨false,rfl,by simp;intro _ _ h;exact absurd (congrArg List.length h) L2.out⟩,B4.out⟩
 ·have l2':((c.cols.length:Int) == (cl.length:Int))=false:=by rw [beq_eq_false_iff_ne];omega
  have l3:(c.cols.length == cl.length)=false:=by simpa using l1
  have L1:=yaa l1
  clear l1 hse hsw hsl hsv
  go_wp2
  all_goals go_ret
  all_goals exact ⟨⟨false,rfl,by simp;intro h;exact absurd (congrArg List.length h) L1.out⟩,B4.out⟩
theorem yue (x y:Vl) (w:World) :
  (binOp .neq 24 (.agg #[.int .i64 x.k,.int .i64 x.n,.string ⟨x.s.toArray⟩]) (.agg #[.int .i64 y.k,.int .i64 y.n,.string ⟨y.s.toArray⟩])).run Tryz.prog w=.ok (.bool (!eqV x y)) w:=by
 rw [run_neq_struct,run_equalIn_struct w 9999 24 _ _ Tryz.under24 Tryz.stood24]
 obtain ⟨f0,f1,f2,hf,n0,t0,o0,n1,t1,o1,n2,t2,o2⟩:=ycT Tryz.fields24
 rw [hf]
 simp [Op.eqFields,n0,t0,o0,n1,t1,o1,n2,t2,o2,go_sem]
 unfold eqV
 by_cases h1:x.k=y.k <;> by_cases h2:x.n=y.n <;> by_cases h3:x.s=y.s <;> simp [h1,h2,h3]
theorem yjS (x y:Cl):ycW x y=true↔x=y:=by
 obtain ⟨k,n⟩:=x
 obtain ⟨k',n'⟩:=y
 simp [ycW]
theorem yfk (L M:List Cl) (u v:Value) (w:World) (h:RowAt 0 w u L.length (L.flatMap clC)) (h':RowAt 0 w v M.length (M.flatMap clC)) (hL:L.length≤1000000000000000) :
  Calls Tryz.prog 51 #[u,v] w fun e w'=>(∃ b,e=.returned (.bool b)∧(b=true↔L=M))∧Below w.heap.size w w':=by
 obtain ⟨ao,cap,hu⟩:=h.form
 obtain ⟨ao',cap',hv⟩:=h'.form
 by_cases hn:L.length=M.length
 ·have H3:Hid (∀ k x y,L[k]?=some x→M[k]?=some y→∃ g o g' o',ao=some ⟨g,o,none⟩∧ao'=some ⟨g',o',none⟩∧g < w.heap.size∧g' < w.heap.size∧(w.cell? ⟨g,o+k*2,none⟩=some (.string ⟨x.name.toArray⟩)∧w.cell? ⟨g,o+k*2+1,none⟩=some (.int .i64 x.ty))∧(w.cell? ⟨g',o'+k*2,none⟩=some (.string ⟨y.name.toArray⟩)∧w.cell? ⟨g',o'+k*2+1,none⟩=some (.int .i64 y.ty))):=by
   intro k x y hx hy
   rcases h with ⟨h0,-⟩|⟨b,off,cp,e,-,hlt,hc⟩
   ·exfalso;have:=(List.getElem?_eq_some_iff.1 hx).1;omega
   rcases h' with ⟨h0,-⟩|⟨b',off',cp',e',-,hlt',hc'⟩
   ·exfalso;have:=(List.getElem?_eq_some_iff.1 hy).1;omega
   rw [hu] at e
   rw [hv] at e'
   cases e
   cases e'
   exact ⟨b,off,b',off',rfl,rfl,hlt,hlt',yf3 hc k x hx,yf3 hc' k y hy⟩
  rw [hu,hv,← hn]
  have HN:=yaa hn
  clear h h' hu hv
  obtain ⟨n,hN⟩:∃ n,L.length=n:=⟨_,rfl⟩
  rw [hN] at hL ⊢
  go_enter Tryz.func51,Tryz.ntmps51
  go_wp2
  go_loopw [5,13] (fun _ i wl=>∃ k:Nat,k≤n∧i=.int .i64 k∧Hid (Below w.heap.size w wl)∧Hid (∀ j,j < k→L[j]?=M[j]?)) (fun _ i _=>n - (intOf i).toNat)
  case atStart=>exact ⟨0,Nat.zero_le _,rfl,Below.refl _ _,fun j hj=>absurd hj (Nat.not_lt_zero _)⟩
  case round =>
   obtain ⟨k,hk,rfl,HB,HA⟩:=hrel
   by_cases hlt:k < n
   ·obtain ⟨x,hx⟩:∃ x,L[k]?=some x:=⟨L[k],List.getElem?_eq_getElem (by omega)⟩
    obtain ⟨y,hy⟩:∃ y,M[k]?=some y:=⟨M[k]'(by have:=HN.out;omega),List.getElem?_eq_getElem (by have:=HN.out;omega)⟩
    obtain ⟨g,o,g',o',rfl,rfl,hg,hg',⟨a0,a1⟩,⟨d0,d1⟩⟩:=H3.out k x y hx hy
    have hnx:=HB.out
    have c0:=(hnx.cell (p:=⟨g,o+k*2,none⟩) hg).trans a0
    have f0:=(hnx.cell (p:=⟨g',o'+k*2,none⟩) hg').trans d0
    have c1:=(hnx.cell (p:=⟨g,o+k*2+1,none⟩) hg).trans a1
    have f1:=(hnx.cell (p:=⟨g',o'+k*2+1,none⟩) hg').trans d1
    have hlt':(k:Int) < (n:Int):=by omega
    have HX:=yaa hx
    have HY:=yaa hy
    have HQ:=yaa (yjS x y)
    have hsv:=ysr x.name y.name x.ty y.ty
    clear a0 d0 a1 d1 hx hy H3 hnx
    by_cases hq:x=y
    ·have hb:=HQ.out.2 hq
     have HE:=yaa hq
     rw [hb] at hsv
     clear hq hb HQ
     go_wp2
     go_quiet (fail)
     go_wp2
     go_roundw
     case rel =>
      refine ⟨k+1,by omega,by go_num,below_drewN HB.out _,fun j hj=>?_⟩
      rcases Nat.lt_or_ge j k with hjk|hjk
      ·exact HA.out j hjk
      ·rw [show j=k by omega,HX.out,HY.out,HE.out]
     case measure=>simp [intOf];omega
    ·have hb:ycW x y=false:=by
      cases hh:ycW x y with
      | false=>rfl
      | true=>exact absurd (HQ.out.1 hh) hq
     have HE:=yaa hq
     rw [hb] at hsv
     clear hq hb HQ
     go_wp2
     go_quiet (fail)
     go_wp2
     go_ret
     refine ⟨⟨false,rfl,⟨fun e=>Bool.noConfusion e,fun e=>?_⟩⟩,below_drewN HB.out _⟩
     have h1:=HX.out
     rw [e,HY.out] at h1
     cases h1
     exact absurd rfl HE.out
   ·clear H3
    go_wp2
    go_ret
    refine ⟨⟨true,rfl,⟨fun _=>List.ext_getElem? fun j=>?_,fun _=>rfl⟩⟩,HB.out⟩
    rcases Nat.lt_or_ge j k with hjk|hjk
    ·exact HA.out j hjk
    ·have:=HN.out
     rw [List.getElem?_eq_none (by omega),List.getElem?_eq_none (by omega)]
 ·have hn':((L.length:Int) == (M.length:Int))=false:=by rw [beq_eq_false_iff_ne];omega
  rw [hu,hv]
  have HN:=yaa hn
  clear h h' hu hv hn
  go_enter Tryz.func51,Tryz.ntmps51
  go_wp2
  go_ret
  exact ⟨⟨false,rfl,⟨fun e=>Bool.noConfusion e,fun e=>absurd (congrArg List.length e) HN.out⟩⟩,Below.refl _ _⟩
theorem yfm (L M:List Vl) (u v:Value) (w:World) (h:RowAt 0 w u L.length (L.flatMap vlC)) (h':RowAt 0 w v M.length (M.flatMap vlC)) (hL:L.length≤1000000000000000) :
  Calls Tryz.prog 52 #[u,v] w fun e w'=>(∃ b,e=.returned (.bool b)∧(b=true↔L=M))∧Below w.heap.size w w':=by
 obtain ⟨ao,cap,hu⟩:=h.form
 obtain ⟨ao',cap',hv⟩:=h'.form
 by_cases hn:L.length=M.length
 ·have H3:Hid (∀ k x y,L[k]?=some x→M[k]?=some y→∃ g o g' o',ao=some ⟨g,o,none⟩∧ao'=some ⟨g',o',none⟩∧g < w.heap.size∧g' < w.heap.size∧(w.cell? ⟨g,o+k*3,none⟩=some (.int .i64 x.k)∧w.cell? ⟨g,o+k*3+1,none⟩=some (.int .i64 x.n)∧w.cell? ⟨g,o+k*3+2,none⟩=some (.string ⟨x.s.toArray⟩))∧(w.cell? ⟨g',o'+k*3,none⟩=some (.int .i64 y.k)∧w.cell? ⟨g',o'+k*3+1,none⟩=some (.int .i64 y.n)∧w.cell? ⟨g',o'+k*3+2,none⟩=some (.string ⟨y.s.toArray⟩))):=by
   intro k x y hx hy
   rcases h with ⟨h0,-⟩|⟨b,off,cp,e,-,hlt,hc⟩
   ·exfalso;have:=(List.getElem?_eq_some_iff.1 hx).1;omega
   rcases h' with ⟨h0,-⟩|⟨b',off',cp',e',-,hlt',hc'⟩
   ·exfalso;have:=(List.getElem?_eq_some_iff.1 hy).1;omega
   rw [hu] at e
   rw [hv] at e'
   cases e
   cases e'
   exact ⟨b,off,b',off',rfl,rfl,hlt,hlt',yf4 hc k x hx,yf4 hc' k y hy⟩
  rw [hu,hv,← hn]
  have HN:=yaa hn
  clear h h' hu hv
  obtain ⟨n,hN⟩:∃ n,L.length=n:=⟨_,rfl⟩
  rw [hN] at hL ⊢
  go_enter Tryz.func52,Tryz.ntmps52
  go_wp2
  go_loopw [5,13] (fun _ i wl=>∃ k:Nat,k≤n∧i=.int .i64 k∧Hid (Below w.heap.size w wl)∧Hid (∀ j,j < k→L[j]?=M[j]?)) (fun _ i _=>n - (intOf i).toNat)
  case atStart=>exact ⟨0,Nat.zero_le _,rfl,Below.refl _ _,fun j hj=>absurd hj (Nat.not_lt_zero _)⟩
  case round =>
   obtain ⟨k,hk,rfl,HB,HA⟩:=hrel
   by_cases hlt:k < n
   ·obtain ⟨x,hx⟩:∃ x,L[k]?=some x:=⟨L[k],List.getElem?_eq_getElem (by omega)⟩
    obtain ⟨y,hy⟩:∃ y,M[k]?=some y:=⟨M[k]'(by have:=HN.out;omega),List.getElem?_eq_getElem (by have:=HN.out;omega)⟩
    obtain ⟨g,o,g',o',rfl,rfl,hg,hg',⟨a0,a1,a2⟩,⟨d0,d1,d2⟩⟩:=H3.out k x y hx hy
    have hnx:=HB.out
    have c0:=(hnx.cell (p:=⟨g,o+k*3,none⟩) hg).trans a0
    have f0:=(hnx.cell (p:=⟨g',o'+k*3,none⟩) hg').trans d0
    have c1:=(hnx.cell (p:=⟨g,o+k*3+1,none⟩) hg).trans a1
    have f1:=(hnx.cell (p:=⟨g',o'+k*3+1,none⟩) hg').trans d1
    have c2:=(hnx.cell (p:=⟨g,o+k*3+2,none⟩) hg).trans a2
    have f2:=(hnx.cell (p:=⟨g',o'+k*3+2,none⟩) hg').trans d2
    have hlt':(k:Int) < (n:Int):=by omega
    have HX:=yaa hx
    have HY:=yaa hy
    have HQ:=yaa (ybx x y)
    have hsv:=yue x y
    clear a0 d0 a1 d1 a2 d2 hx hy H3 hnx
    by_cases hq:x=y
    ·have hb:=HQ.out.2 hq
     have HE:=yaa hq
     rw [hb] at hsv
     clear hq hb HQ
     go_wp2
     go_quiet (fail)
     go_wp2
     go_roundw
     case rel =>
      refine ⟨k+1,by omega,by go_num,below_drewN HB.out _,fun j hj=>?_⟩
      rcases Nat.lt_or_ge j k with hjk|hjk
      ·exact HA.out j hjk
      ·rw [show j=k by omega,HX.out,HY.out,HE.out]
     case measure=>simp [intOf];omega
    ·have hb:eqV x y=false:=by
      cases hh:eqV x y with
      | false=>rfl
      | true=>exact absurd (HQ.out.1 hh) hq
     have HE:=yaa hq
     rw [hb] at hsv
     clear hq hb HQ
     go_wp2
     go_quiet (fail)
     go_wp2
     go_ret
     refine ⟨⟨false,rfl,⟨fun e=>Bool.noConfusion e,fun e=>?_⟩⟩,below_drewN HB.out _⟩
     have h1:=HX.out
     rw [e,HY.out] at h1
     cases h1
     exact absurd rfl HE.out
   ·clear H3
    go_wp2
    go_ret
    refine ⟨⟨true,rfl,⟨fun _=>List.ext_getElem? fun j=>?_,fun _=>rfl⟩⟩,HB.out⟩
    rcases Nat.lt_or_ge j k with hjk|hjk
    ·exact HA.out j hjk
    ·have:=HN.out
     rw [List.getElem?_eq_none (by omega),List.getElem?_eq_none (by omega)]
 ·have hn':((L.length:Int) == (M.length:Int))=false:=by rw [beq_eq_false_iff_ne];omega
  rw [hu,hv]
  have HN:=yaa hn
  clear h h' hu hv hn
  go_enter Tryz.func52,Tryz.ntmps52
  go_wp2
  go_ret
  exact ⟨⟨false,rfl,⟨fun e=>Bool.noConfusion e,fun e=>absurd (congrArg List.length e) HN.out⟩⟩,Below.refl _ _⟩
def eqS (x y:List UInt8):Bool:=decide (x=y)
theorem ypM (x y:List UInt8):eqS x y=true↔x=y:=by simp [eqS]
theorem yvh (x y:List UInt8) (w:World):(binOp .neq 9 (.string ⟨x.toArray⟩) (.string ⟨y.toArray⟩)).run Tryz.prog w=.ok (.bool (!eqS x y)) w:=by
 simp [go_sem,eqS]
 by_cases h:x=y <;> simp [h]
theorem yfl (L M:List (List UInt8)) (u v:Value) (w:World) (h:RowAt 0 w u L.length (L.flatMap stC)) (h':RowAt 0 w v M.length (M.flatMap stC)) (hL:L.length≤1000000000000000) :
  Calls Tryz.prog 53 #[u,v] w fun e w'=>(∃ b,e=.returned (.bool b)∧(b=true↔L=M))∧Below w.heap.size w w':=by
 obtain ⟨ao,cap,hu⟩:=h.form
 obtain ⟨ao',cap',hv⟩:=h'.form
 by_cases hn:L.length=M.length
 ·have H3:Hid (∀ k x y,L[k]?=some x→M[k]?=some y→∃ g o g' o',ao=some ⟨g,o,none⟩∧ao'=some ⟨g',o',none⟩∧g < w.heap.size∧g' < w.heap.size∧(w.cell? ⟨g,o+k,none⟩=some (.string ⟨x.toArray⟩))∧(w.cell? ⟨g',o'+k,none⟩=some (.string ⟨y.toArray⟩))):=by
   intro k x y hx hy
   rcases h with ⟨h0,-⟩|⟨b,off,cp,e,-,hlt,hc⟩
   ·exfalso;have:=(List.getElem?_eq_some_iff.1 hx).1;omega
   rcases h' with ⟨h0,-⟩|⟨b',off',cp',e',-,hlt',hc'⟩
   ·exfalso;have:=(List.getElem?_eq_some_iff.1 hy).1;omega
   rw [hu] at e
   rw [hv] at e'
   cases e
   cases e'
   exact ⟨b,off,b',off',rfl,rfl,hlt,hlt',yeM hc k x hx,yeM hc' k y hy⟩
  rw [hu,hv,← hn]
  have HN:=yaa hn
  clear h h' hu hv
  obtain ⟨n,hN⟩:∃ n,L.length=n:=⟨_,rfl⟩
  rw [hN] at hL ⊢
  go_enter Tryz.func53,Tryz.ntmps53
  go_wp2
  go_loopw [5,13] (fun _ i wl=>∃ k:Nat,k≤n∧i=.int .i64 k∧Hid (Below w.heap.size w wl)∧Hid (∀ j,j < k→L[j]?=M[j]?)) (fun _ i _=>n - (intOf i).toNat)
  case atStart=>exact ⟨0,Nat.zero_le _,rfl,Below.refl _ _,fun j hj=>absurd hj (Nat.not_lt_zero _)⟩
  case round =>
   obtain ⟨k,hk,rfl,HB,HA⟩:=hrel
   by_cases hlt:k < n
   ·obtain ⟨x,hx⟩:∃ x,L[k]?=some x:=⟨L[k],List.getElem?_eq_getElem (by omega)⟩
    obtain ⟨y,hy⟩:∃ y,M[k]?=some y:=⟨M[k]'(by have:=HN.out;omega),List.getElem?_eq_getElem (by have:=HN.out;omega)⟩
    obtain ⟨g,o,g',o',rfl,rfl,hg,hg',a0,d0⟩:=H3.out k x y hx hy
    have hnx:=HB.out
    have c0:=(hnx.cell (p:=⟨g,o+k,none⟩) hg).trans a0
    have f0:=(hnx.cell (p:=⟨g',o'+k,none⟩) hg').trans d0
    have hlt':(k:Int) < (n:Int):=by omega
    have HX:=yaa hx
    have HY:=yaa hy
    have HQ:=yaa (ypM x y)
    have hsv:=yvh x y
    clear a0 d0 hx hy H3 hnx
    by_cases hq:x=y
    ·subst hq
     clear HQ hsv
     go_wp2
     go_quiet (fail)
     go_wp2
     go_roundw
     case rel =>
      refine ⟨k+1,by omega,by go_num,below_drewN HB.out _,fun j hj=>?_⟩
      rcases Nat.lt_or_ge j k with hjk|hjk
      ·exact HA.out j hjk
      ·rw [show j=k by omega,HX.out,HY.out]
     case measure=>simp [intOf];omega
    ·have hb:(x == y)=false:=beq_eq_false_iff_ne.2 hq
     have HE:=yaa hq
     clear hq HQ hsv
     go_wp2
     go_quiet (fail)
     go_wp2
     go_ret
     refine ⟨⟨false,rfl,⟨fun e=>Bool.noConfusion e,fun e=>?_⟩⟩,below_drewN HB.out _⟩
     have h1:=HX.out
     rw [e,HY.out] at h1
     cases h1
     exact absurd rfl HE.out
   ·clear H3
    go_wp2
    go_ret
    refine ⟨⟨true,rfl,⟨fun _=>List.ext_getElem? fun j=>?_,fun _=>rfl⟩⟩,HB.out⟩
    rcases Nat.lt_or_ge j k with hjk|hjk
    ·exact HA.out j hjk
    ·have:=HN.out
     rw [List.getElem?_eq_none (by omega),List.getElem?_eq_none (by omega)]
 ·have hn':((L.length:Int) == (M.length:Int))=false:=by rw [beq_eq_false_iff_ne];omega
  rw [hu,hv]
  have HN:=yaa hn
  clear h h' hu hv hn
  go_enter Tryz.func53,Tryz.ntmps53
  go_wp2
  go_ret
  exact ⟨⟨false,rfl,⟨fun e=>Bool.noConfusion e,fun e=>absurd (congrArg List.length e) HN.out⟩⟩,Below.refl _ _⟩
theorem ykG (x y:Vl) (w:World) :
  (binOp .eql 24 (.agg #[.int .i64 x.k,.int .i64 x.n,.string ⟨x.s.toArray⟩]) (.agg #[.int .i64 y.k,.int .i64 y.n,.string ⟨y.s.toArray⟩])).run Tryz.prog w=.ok (.bool (eqV x y)) w:=by
 rw [yi6]
 congr 2
 unfold ycX eqV
 rw [Lib.toList_data,Lib.toList_data,Bool.eq_iff_iff]
 simp
theorem ydo {w wr:World} (h:Below w.heap.size w wr) (o o':Obj):Below w.heap.size w ((wr.alloc o).alloc o'):=(h.alloc h.size _).alloc (by have:=h.size;simp;omega) _
theorem yge {w wr w':World} (h:Below w.heap.size w wr) {o o':Obj} (hb:Below ((wr.alloc o).alloc o').heap.size ((wr.alloc o).alloc o') w'):Below w.heap.size w w' :=
 (ydo h o o').trans (hb.mono (by have:=h.size;simp;omega))
theorem yum (k k':Int) (x x':Vl) (nm nm':List UInt8) (ao ao':Option Addr) (n n' ca ca':Nat) (w:World) (hne:¬ (k=k'∧nm=nm'∧x=x')) :
  Calls Tryz.prog 54 #[exV k x nm (.slice ao n ca),exV k' x' nm' (.slice ao' n' ca')] w fun e w'=>e=.returned (.bool false)∧Below w.heap.size w w':=by
 have hq:=ykG x x'
 unfold exV
 by_cases h1:k=k'
 ·subst h1
  by_cases h3:x=x'
  ·subst h3
   have h2:¬ nm=nm':=fun e=>hne ⟨rfl,e,rfl⟩
   have h2':=ycJ h2
   rw [(ybx x x).2 rfl] at hq
   clear hne
   go_enter Tryz.func54,Tryz.ntmps54
   go_wp2
   go_ret
   exact ⟨rfl,ydo (Below.refl _ _) _ _⟩
  ·have hf:eqV x x'=false:=by
    cases hh:eqV x x' with
    | false=>rfl
    | true=>exact absurd ((ybx x x').1 hh) h3
   rw [hf] at hq
   clear hne h3 hf
   go_enter Tryz.func54,Tryz.ntmps54
   go_wp2
   go_ret
   exact ⟨rfl,ydo (Below.refl _ _) _ _⟩
 ·have h1':(k == k')=false:=by simpa using h1
  clear hne hq
  go_enter Tryz.func54,Tryz.ntmps54
  go_wp2
  go_ret
  exact ⟨rfl,ydo (Below.refl _ _) _ _⟩
theorem ysU (k:Int) (x:Vl) (nm:List UInt8) (ao ao':Option Addr) (n n' ca ca':Nat) (w:World) (P:Bool→Prop)
  (hf:∀ W,Below w.heap.size w W→Calls Tryz.prog 103 #[.slice ao n ca,.slice ao' n' ca',.func (.func 54) #[] #[]] W fun e w'=>(∃ b,e=.returned (.bool b)∧P b)∧Below W.heap.size W w') :
  Calls Tryz.prog 54 #[exV k x nm (.slice ao n ca),exV k x nm (.slice ao' n' ca')] w fun e w'=>(∃ b,e=.returned (.bool b)∧P b)∧Below w.heap.size w w':=by
 have hq:=ykG x x
 rw [(ybx x x).2 rfl] at hq
 unfold exV
 go_enter Tryz.func54,Tryz.ntmps54
 go_wp2_with (go_at_call 103;refine (hf _ (ydo (Below.refl _ _) _ _)).mono ?_;rintro e w1 ⟨⟨b,rfl,hb⟩,b1⟩)
 go_ret
 exact ⟨⟨b,rfl,hb⟩,yge (Below.refl _ _) b1⟩
theorem ypL (ao ao':Option Addr) (n n' ca ca':Nat) (w:World) (h:n≠n') :
  Calls Tryz.prog 103 #[.slice ao n ca,.slice ao' n' ca',.func (.func 54) #[] #[]] w fun e w'=>e=.returned (.bool false)∧Below w.heap.size w w':=by
 have h3':((n:Int) == (n':Int))=false:=by rw [beq_eq_false_iff_ne];omega
 clear h
 go_enter Tryz.func103,Tryz.ntmps103
 go_wp2
 go_ret
 exact ⟨rfl,Below.refl _ _⟩
theorem yim {k k':Int} {v v':Vl} {nm nm':List UInt8} {a a':Value} (h:exV k v nm a=exV k' v' nm' a'):a=a':=by
 have:=congrArg (fun u=>match u with|Value.agg x=>x[5]?|_=>none) h
 simpa [exV] using this
theorem yna (ao ao':Option Addr) (n ca ca':Nat) (xs ys:List Ex) (us vs:Nat→Value) (w:World) (hx:xs.length=n) (hy:ys.length=n) (hn:n≤1000000000000000)
  (h1:0 < n→∃ g o g' o',ao=some ⟨g,o,none⟩∧ao'=some ⟨g',o',none⟩∧g < w.heap.size∧g' < w.heap.size∧(∀ i,i < n→Six w g (o+6*i) (us i))∧(∀ i,i < n→Six w g' (o'+6*i) (vs i)))
  (hk:∀ i,i < n→(∃ k y nm ao m cap,us i=exV k y nm (.slice ao m cap))∧(∃ k y nm ao m cap,vs i=exV k y nm (.slice ao m cap)))
  (hc:∀ i y z,xs[i]?=some y→ys[i]?=some z→∀ b:Bool,(b=true↔y=z)→∀ W,Below w.heap.size w W→Calls Tryz.prog 54 #[us i,vs i] W fun e w'=>e=.returned (.bool b)∧Below W.heap.size W w') :
  Calls Tryz.prog 103 #[.slice ao n ca,.slice ao' n ca',.func (.func 54) #[] #[]] w fun e w'=>(∃ b,e=.returned (.bool b)∧(b=true↔xs=ys))∧Below w.heap.size w w':=by
 have H1:=yaa h1
 have HC:=yaa hc
 have HK:=yaa hk
 clear h1 hc hk
 go_enter Tryz.func103,Tryz.ntmps103
 go_wp2
 go_loopw [7,8,9,17] (fun _ _ _ i wl=>∃ k:Nat,k≤n∧i=.int .i64 k∧Hid (Below w.heap.size w wl)∧Hid (∀ j,j < k→xs[j]?=ys[j]?)) (fun _ _ _ i _=>n - (intOf i).toNat)
 case atStart=>exact ⟨0,Nat.zero_le _,rfl,Below.refl _ _,fun j hj=>absurd hj (Nat.not_lt_zero _)⟩
 case round =>
  obtain ⟨i,hi,rfl,HB,HA⟩:=hrel
  by_cases hlt:i < n
  ·obtain ⟨y,hy1⟩:∃ y,xs[i]?=some y:=⟨xs[i]'(by omega),List.getElem?_eq_getElem (by omega)⟩
   obtain ⟨z,hz1⟩:∃ z,ys[i]?=some z:=⟨ys[i]'(by omega),List.getElem?_eq_getElem (by omega)⟩
   obtain ⟨g,o,g',o',rfl,rfl,hg,hg',f1,f2⟩:=H1.out (by omega)
   obtain ⟨q,hq⟩:=ylm (y=z)
   have kc:=HC.out i y z hy1 hz1 q hq
   obtain ⟨ky,vy,ny,ay,ey,s0,s1,s2,s3,s4,s5⟩:=f1 i hlt
   obtain ⟨kz,vz,nz,az,ez,t0,t1,t2,t3,t4,t5⟩:=f2 i hlt
   obtain ⟨⟨k2,v2,m2,o2,l2,q2,r2⟩,⟨k3,v3,m3,o3,l3,q3,r3⟩⟩:=HK.out i hlt
   obtain rfl:=(yim (ey.symm.trans r2)).symm
   obtain rfl:=(yim (ez.symm.trans r3)).symm
   clear r2 r3
   rw [ey,ez] at kc
   unfold exV at kc
   have up:∀ b o,b < w.heap.size→wr.cell? ⟨b,o,none⟩=w.cell? ⟨b,o,none⟩:=fun b o hb=>HB.out.cell (p:=⟨b,o,none⟩) hb
   have e0:=(up _ _ hg).trans s0
   have e1:=(up _ _ hg).trans s1
   have e2:=(up _ _ hg).trans s2
   have e3:=(up _ _ hg).trans s3
   have e4:=(up _ _ hg).trans s4
   have e5:=(up _ _ hg).trans s5
   have f0:=(up _ _ hg').trans t0
   have f1:=(up _ _ hg').trans t1
   have f2:=(up _ _ hg').trans t2
   have f3:=(up _ _ hg').trans t3
   have f4:=(up _ _ hg').trans t4
   have f5:=(up _ _ hg').trans t5
   have hgr:g' < wr.heap.size:=Nat.lt_of_lt_of_le hg' HB.out.size
   have HX:=yaa hy1
   have HY:=yaa hz1
   have HQ:=yaa hq
   have hlt':(i:Int) < (n:Int):=by omega
   rw [Nat.mul_comm 6 i] at e0 e1 e2 e3 e4 e5 f0 f1 f2 f3 f4 f5
   clear s0 s1 s2 s3 s4 s5 t0 t1 t2 t3 t4 t5 hy1 hz1 H1 HC HK up ey ez hq
   cases q with
   | true =>
    go_wp2_with (go_at_call 54;refine (kc _ (ydo HB.out _ _)).mono ?_;rintro e w' ⟨rfl,hb⟩)
    go_roundw
    case rel =>
     refine ⟨i+1,by omega,by go_num,yge HB.out hb,fun j hj=>?_⟩
     rcases Nat.lt_or_ge j i with hjk|hjk
     ·exact HA.out j hjk
     ·rw [show j=i by omega,HX.out,HY.out,HQ.out.1 (by simp)]
    case measure=>simp [intOf];omega
   | false =>
    go_wp2_with (go_at_call 54;refine (kc _ (ydo HB.out _ _)).mono ?_;rintro e w' ⟨rfl,hb⟩)
    go_ret
    refine ⟨⟨false,rfl,⟨fun e=>Bool.noConfusion e,fun e=>?_⟩⟩,yge HB.out hb⟩
    have h1:=HX.out
    rw [e,HY.out] at h1
    cases h1
    exact HQ.out.2 rfl
  ·clear H1 HC HK
   go_wp2
   go_ret
   refine ⟨⟨true,rfl,⟨fun _=>List.ext_getElem? fun j=>?_,fun _=>rfl⟩⟩,HB.out⟩
   rcases Nat.lt_or_ge j i with hjk|hjk
   ·exact HA.out j hjk
   ·rw [List.getElem?_eq_none (by omega),List.getElem?_eq_none (by omega)]
theorem yiP (n:Nat):∀ (x y:Ex) (u v:Value) (w0:World),yaQ x≤n→ExAt 0 w0 u x→ExAt 0 w0 v y→Fit x→∀ b:Bool,(b=true↔x=y)→∀ W,Below w0.heap.size w0 W →
  Calls Tryz.prog 54 #[u,v] W fun e w'=>e=.returned (.bool b)∧Below W.heap.size W w':=by
 induction n with
 | zero=>intro x y u v w0 h;have:=ycZ x;omega
 | succ n ih =>
  intro x y u v w0 hs hx hy hf b hb W hW
  obtain ⟨ao,ca,us,rfl,h1⟩:=hx.spread
  obtain ⟨ao',ca',vs,rfl,h2⟩:=hy.spread
  by_cases hh:x.k=y.k∧x.nm=y.nm∧x.v=y.v
  ·obtain ⟨e1,e2,e3⟩:=hh
   rw [← e1,← e2,← e3]
   refine (ysU x.k x.v x.nm ao ao' x.args.length y.args.length ca ca' W (fun b'=>b'=true↔x.args=y.args) fun W1 hW1=>?_).mono ?_
   ·have hW2:Below w0.heap.size w0 W1:=hW.trans (hW1.mono hW.size)
    by_cases e4:x.args.length=y.args.length
    ·rw [← e4]
     have keep:∀ {g o:Nat} {u:Value},g < w0.heap.size→Six w0 g o u→Six W1 g o u:=fun hg h=>h.keep (hW2.block _ hg)
     refine yna ao ao' x.args.length ca ca' x.args y.args us vs W1 rfl e4.symm hf.few ?_ ?_ ?_
     ·intro h0
      obtain ⟨g,o,rfl,-,hg,hc,-⟩:=h1 h0
      obtain ⟨g',o',rfl,-,hg',hc',-⟩:=h2 (by omega)
      exact ⟨g,o,g',o',rfl,rfl,Nat.lt_of_lt_of_le hg hW2.size,Nat.lt_of_lt_of_le hg' hW2.size,fun i hi=>keep hg (hc i hi),fun i hi=>keep hg' (hc' i (by omega))⟩
     ·intro i hi
      obtain ⟨g,o,-,-,-,-,he⟩:=h1 (by omega)
      obtain ⟨g',o',-,-,-,-,he'⟩:=h2 (by omega)
      exact ⟨(he i _ (List.getElem?_eq_getElem hi)).form,(he' i _ (List.getElem?_eq_getElem (by omega))).form⟩
     ·intro i y' z' hy' hz' b' hb' W' hW'
      have h0:0 < x.args.length:=by have:=(List.getElem?_eq_some_iff.1 hy').1;omega
      obtain ⟨g,o,-,-,-,-,he⟩:=h1 h0
      obtain ⟨g',o',-,-,-,-,he'⟩:=h2 (by omega)
      exact ih y' z' (us i) (vs i) w0 (by have:=yei hy';omega) (he i y' hy') (he' i z' hz') (hf.arg hy') b' hb' W' (hW2.trans (hW'.mono hW2.size))
    ·refine (ypL ao ao' _ _ ca ca' W1 e4).mono ?_
     rintro e w' ⟨rfl,bel⟩
     exact ⟨⟨false,rfl,⟨fun e=>Bool.noConfusion e,fun e=>absurd (congrArg List.length e) e4⟩⟩,bel⟩
   ·rintro e w' ⟨⟨b',rfl,hb'⟩,bel⟩
    refine ⟨yaw ?_,bel⟩
    rw [Bool.eq_iff_iff,hb',hb,ex_ext]
    exact ⟨fun h=>⟨e1,e2,e3,h⟩,fun h=>h.2.2.2⟩
  ·refine (yum x.k y.k x.v y.v x.nm y.nm ao ao' x.args.length y.args.length ca ca' W hh).mono ?_
   rintro e w' ⟨rfl,bel⟩
   refine ⟨yaw ?_,bel⟩
   cases b with
   | false=>rfl
   | true =>
    have:=ex_ext.1 (hb.1 rfl)
    exact absurd ⟨this.1,this.2.1,this.2.2.1⟩ hh
end Go.Proofs.YtkpeklealgicpabGreatDoor
