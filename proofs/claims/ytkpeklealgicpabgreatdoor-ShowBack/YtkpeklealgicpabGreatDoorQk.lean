/-
  CheckCmd of the document: Limit, Order, Expr.
  CheckCmd of the document: Where.
  CheckCmd of the document: the region that draws.
  CheckCmd of the document, statement by statement, on any frame.
  PlainExpr of the document: its region.
  The document's reader, as it goes on whether it has failed or not: where it is, and whether it has.
-/
import Derived.Test.YtkpeklealgicpabGreatDoorQa
import Derived.Test.YtkpeklealgicpabGreatDoorQf
import Derived.Test.YtkpeklealgicpabGreatDoorQg
import Derived.Test.YtkpeklealgicpabGreatDoorQh
import Derived.Test.YtkpeklealgicpabGreatDoorQj

set_option maxRecDepth 100000
set_option maxHeartbeats 8000000
namespace Go.Proofs.YtkpeklealgicpabGreatDoor
open Go.RowKit
noncomputable def k22_R:Array Oper:=((Tryz.f13.body).bind (yaC 22)).getD #[]
def ytV (c:Cm) (j:Nat):Value:=([.int .i64 c.kind,.bool (decide (c.kind=13))]:List Value).getD j undef
def k22_d:List (Option Tmp):=[some 210,some 211]
theorem ymj:k22_d.Nodup:=by unfold k22_d;decide
theorem ysE {c:Cm} {S:World→Prop} {a0:Act} {Q:Exit→Act→World→Prop} {w:World} (h3:a0.tmps[3]?=some (.int .i64 c.kind)) (ha:a0.tmps.size=272) (hS:S w)
  (hq:∀ a' w',S w'→a'.defers=a0.defers→a'.tmps.size=272→(∀ j d,k22_d[j]?=some (some d)→a'.tmps[d]?=some (ytV c j))→(∀ d,some d ∉ k22_d→a'.tmps[d]?=a0.tmps[d]?)→Q .normal a' w'):(Code.region 22 k22_R false).wp Tryz.prog Q a0 w:=by
 have hz:k22_R.size=2:=by kernel_rfl
 refine yaT (m:=272) hz (by kernel_rfl) ymj (by kernel_rfl) ha ?_ hS hq
 refine us ?_ (ybf hz (by decide) (by kernel_rfl) fun _ W s _=>yaR (u:=3) (x:=.tmp 210) (y:=.const (.int .i64 13)) (by kernel_rfl) (s.u 0 210 (by kernel_rfl)) (rfl) (ye0 W _ _ _ _))
 refine us ?_ (ybf hz (by decide) (by kernel_rfl) fun _ _ s _=>yai (x:=.tmp 3) (by kernel_rfl) (s.b 3 (by kernel_rfl) h3))
 exact fun j hj=>absurd hj (Nat.not_lt_zero j)
noncomputable def k23_R:Array Oper:=((Tryz.f13.body).bind (yaC 23)).getD #[]
def ytW (c:Cm) (b:Nat) (ok:Bool) (j:Nat):Value:=([.bool ok,.bool ok,gw (ok == true) (.pointer (some ⟨b,25,none⟩)),gw (ok == true) (.int .i64 c.limit),gw (ok == true) (.bool (ya6 c.limit (-1) 999999999)),.bool (ok&&(ya6 c.limit (-1) 999999999)),.bool (ok&&(ya6 c.limit (-1) 999999999)),gw ((ok&&(ya6 c.limit (-1) 999999999)) == true) (.pointer (some ⟨b,24,none⟩)),gw ((ok&&(ya6 c.limit (-1) 999999999)) == true) (.string ⟨c.order.toArray⟩),gw ((ok&&(ya6 c.limit (-1) 999999999)) == true) (.bool (decide (c.order=[]))),gw ((ok&&(ya6 c.limit (-1) 999999999)) == true) (.bool (decide (c.order=[]))),gw (((ok&&(ya6 c.limit (-1) 999999999)) == true)&&((decide (c.order=[])) == false)) (.pointer (some ⟨b,24,none⟩)),gw (((ok&&(ya6 c.limit (-1) 999999999)) == true)&&((decide (c.order=[])) == false)) (.string ⟨c.order.toArray⟩),gw (((ok&&(ya6 c.limit (-1) 999999999)) == true)&&((decide (c.order=[])) == false)) (.bool (yap c.order)),gw ((ok&&(ya6 c.limit (-1) 999999999)) == true) (.bool ((decide (c.order=[])) || (yap c.order))),.bool ((ok&&(ya6 c.limit (-1) 999999999))&&((decide (c.order=[])) || (yap c.order))),.bool ((ok&&(ya6 c.limit (-1) 999999999))&&((decide (c.order=[])) || (yap c.order)))]:List Value).getD j undef
def k23_d:List (Option Tmp):=[some 212,some 213,some 214,some 215,some 216,some 217,some 218,some 219,some 220,some 221,some 222,some 223,some 224,some 225,some 226,some 227,some 4]
theorem ymk:k23_d.Nodup:=by unfold k23_d;decide
theorem ysF {c:Cm} {a1 a2 a3 a4 a5:Option Addr} {c1 c2 c3 c4 c5:Nat} {b:Nat} {ok:Bool} {S:World→Prop} {a0:Act} {Q:Exit→Act→World→Prop} {w:World} (h1:a0.tmps[1]?=some (.pointer (some ⟨b,0,none⟩))) (h4:a0.tmps[4]?=some (.bool ok)) (hcell:∀ W,S W→∀ o x,(cmL c (.slice a1 c.cols.length c1) (.slice a2 c.vals.length c2) (.slice a3 c.fields.length c3) (.slice a4 c.expr.args.length c4) (.slice a5 c.wh.args.length c5))[o]?=some x→W.cell? ⟨b,o,none⟩=some x) (q216:∀ W,S W→Calls Tryz.prog 31 #[.int .i64 c.limit,.int .i64 (-1),.int .i64 999999999] W fun e w'=>e=.returned (.bool (ya6 c.limit (-1) 999999999))∧S w') (q225:∀ W,S W→Calls Tryz.prog 34 #[.string ⟨c.order.toArray⟩] W fun e w'=>e=.returned (.bool (yap c.order))∧S w') (ha:a0.tmps.size=272) (hS:S w)
  (hq:∀ a' w',S w'→a'.defers=a0.defers→a'.tmps.size=272→(∀ j d,k23_d[j]?=some (some d)→a'.tmps[d]?=some (ytW c b ok j))→(∀ d,some d ∉ k23_d→a'.tmps[d]?=a0.tmps[d]?)→Q .normal a' w'):(Code.region 23 k23_R false).wp Tryz.prog Q a0 w:=by
 have hz:k23_R.size=17:=by kernel_rfl
 refine yaT (m:=272) hz (by kernel_rfl) ymk (by kernel_rfl) ha ?_ hS hq
 refine us ?_ (ybf hz (by decide) (by kernel_rfl) fun _ _ s _=>yaV (x:=.tmp 227) (by kernel_rfl) (s.u 15 227 (by kernel_rfl)))
 refine us ?_ (ybf hz (by decide) (by kernel_rfl) fun _ _ s _=>yaE (G:=true) (by kernel_rfl) (s.u 6 218 (by kernel_rfl)) (s.u 14 226 (by kernel_rfl)) rfl rfl)
 refine us ?_ (ybi true 6 218 true hz (by decide) (by kernel_rfl) rfl rfl fun hG _ _ s _=>ybI (by kernel_rfl) (s.g 10 222 (by kernel_rfl) hG rfl) (s.u 13 225 (by kernel_rfl)) rfl hG)
 refine us ?_ (yhV _ 10 222 false hz (by decide) (by kernel_rfl) rfl rfl (fun hG _ _ s=>ybm (ts:=#[9]) (x:=.tmp 224) (f:=34) yty (by kernel_rfl) rfl (s.g 12 224 (by kernel_rfl) hG rfl)) q225)
 refine us ?_ (ybi _ 10 222 false hz (by decide) (by kernel_rfl) rfl rfl fun hG _ W s hS=>yas (x:=.tmp 223) (t:=9) (by kernel_rfl) (s.g 11 223 (by kernel_rfl) hG rfl) (ld9 W _ 24 _ (hcell W hS 24 _ rfl)))
 refine us ?_ (ybi _ 10 222 false hz (by decide) (by kernel_rfl) rfl rfl fun _ _ W s _=>yal (x:=.tmp 1) (t:=31) (f:=12) (by kernel_rfl) (s.b 1 (by kernel_rfl) h1) (yrJ W _))
 refine us ?_ (ybi true 6 218 true hz (by decide) (by kernel_rfl) rfl rfl fun hG _ _ s _=>yai (x:=.tmp 221) (by kernel_rfl) (s.g 9 221 (by kernel_rfl) hG rfl))
 refine us ?_ (ybi true 6 218 true hz (by decide) (by kernel_rfl) rfl rfl fun hG _ W s _=>yaR (u:=9) (x:=.tmp 220) (y:=.const (.string ⟨#[]⟩)) (by kernel_rfl) (s.g 8 220 (by kernel_rfl) hG rfl) (rfl) (eq9 W _ _ _))
 refine us ?_ (ybi true 6 218 true hz (by decide) (by kernel_rfl) rfl rfl fun hG _ W s hS=>yas (x:=.tmp 219) (t:=9) (by kernel_rfl) (s.g 7 219 (by kernel_rfl) hG rfl) (ld9 W _ 24 _ (hcell W hS 24 _ rfl)))
 refine us ?_ (ybi true 6 218 true hz (by decide) (by kernel_rfl) rfl rfl fun _ _ W s _=>yal (x:=.tmp 1) (t:=31) (f:=12) (by kernel_rfl) (s.b 1 (by kernel_rfl) h1) (yrJ W _))
 refine us ?_ (ybf hz (by decide) (by kernel_rfl) fun _ _ s _=>yai (x:=.tmp 217) (by kernel_rfl) (s.u 5 217 (by kernel_rfl)))
 refine us ?_ (ybf hz (by decide) (by kernel_rfl) fun _ _ s _=>yaE (G:=true) (by kernel_rfl) (s.u 1 213 (by kernel_rfl)) (s.u 4 216 (by kernel_rfl)) rfl rfl)
 refine us ?_ (yhV true 1 213 true hz (by decide) (by kernel_rfl) rfl rfl (fun hG _ _ s=>ydm (ts:=#[3,3,3]) (x:=.tmp 215) (y:=.const (.int .i64 (-1))) (z:=.const (.int .i64 999999999)) (f:=31) yql (by kernel_rfl) rfl (s.g 3 215 (by kernel_rfl) hG rfl) (rfl) (rfl)) q216)
 refine us ?_ (ybi true 1 213 true hz (by decide) (by kernel_rfl) rfl rfl fun hG _ W s hS=>yas (x:=.tmp 214) (t:=3) (by kernel_rfl) (s.g 2 214 (by kernel_rfl) hG rfl) (ld3 W _ 25 _ (hcell W hS 25 _ rfl)))
 refine us ?_ (ybi true 1 213 true hz (by decide) (by kernel_rfl) rfl rfl fun _ _ W s _=>yal (x:=.tmp 1) (t:=31) (f:=13) (by kernel_rfl) (s.b 1 (by kernel_rfl) h1) (yrY W _))
 refine us ?_ (ybf hz (by decide) (by kernel_rfl) fun _ _ s _=>yai (x:=.tmp 212) (by kernel_rfl) (s.u 0 212 (by kernel_rfl)))
 refine us ?_ (ybf hz (by decide) (by kernel_rfl) fun _ _ s _=>yai (x:=.tmp 4) (by kernel_rfl) (s.b 4 (by kernel_rfl) h4))
 exact fun j hj=>absurd hj (Nat.not_lt_zero j)
noncomputable def k24_R:Array Oper:=((Tryz.f13.body).bind (yaC 24)).getD #[]
def ytX (c:Cm) (j:Nat):Value:=([.int .i64 c.kind,.bool (decide (c.kind=12))]:List Value).getD j undef
def k24_d:List (Option Tmp):=[some 228,some 229]
theorem yml:k24_d.Nodup:=by unfold k24_d;decide
theorem ysG {c:Cm} {S:World→Prop} {a0:Act} {Q:Exit→Act→World→Prop} {w:World} (h3:a0.tmps[3]?=some (.int .i64 c.kind)) (ha:a0.tmps.size=272) (hS:S w)
  (hq:∀ a' w',S w'→a'.defers=a0.defers→a'.tmps.size=272→(∀ j d,k24_d[j]?=some (some d)→a'.tmps[d]?=some (ytX c j))→(∀ d,some d ∉ k24_d→a'.tmps[d]?=a0.tmps[d]?)→Q .normal a' w'):(Code.region 24 k24_R false).wp Tryz.prog Q a0 w:=by
 have hz:k24_R.size=2:=by kernel_rfl
 refine yaT (m:=272) hz (by kernel_rfl) yml (by kernel_rfl) ha ?_ hS hq
 refine us ?_ (ybf hz (by decide) (by kernel_rfl) fun _ W s _=>yaR (u:=3) (x:=.tmp 228) (y:=.const (.int .i64 12)) (by kernel_rfl) (s.u 0 228 (by kernel_rfl)) (rfl) (ye0 W _ _ _ _))
 refine us ?_ (ybf hz (by decide) (by kernel_rfl) fun _ _ s _=>yai (x:=.tmp 3) (by kernel_rfl) (s.b 3 (by kernel_rfl) h3))
 exact fun j hj=>absurd hj (Nat.not_lt_zero j)
noncomputable def k25_R:Array Oper:=((Tryz.f13.body).bind (yaC 25)).getD #[]
def ytY (c:Cm) (a4:Option Addr) (c4:Nat) (b:Nat) (ok:Bool) (j:Nat):Value:=([.bool ok,.bool ok,gw (ok == true) (.pointer (some ⟨b,11,none⟩)),gw (ok == true) (.agg #[.int .i64 c.expr.k,.int .i64 c.expr.v.k,.int .i64 c.expr.v.n,.string ⟨c.expr.v.s.toArray⟩,.string ⟨c.expr.nm.toArray⟩,.slice a4 c.expr.args.length c4]),gw (ok == true) (.bool (exR c.expr)),.bool (ok&&(exR c.expr)),.bool (ok&&(exR c.expr))]:List Value).getD j undef
def k25_d:List (Option Tmp):=[some 230,some 231,some 232,some 233,some 234,some 235,some 4]
theorem ymm:k25_d.Nodup:=by unfold k25_d;decide
theorem ysH {c:Cm} {a1 a2 a3 a4 a5:Option Addr} {c1 c2 c3 c4 c5:Nat} {b:Nat} {ok:Bool} {S:World→Prop} {a0:Act} {Q:Exit→Act→World→Prop} {w:World} (h1:a0.tmps[1]?=some (.pointer (some ⟨b,0,none⟩))) (h4:a0.tmps[4]?=some (.bool ok)) (hcell:∀ W,S W→∀ o x,(cmL c (.slice a1 c.cols.length c1) (.slice a2 c.vals.length c2) (.slice a3 c.fields.length c3) (.slice a4 c.expr.args.length c4) (.slice a5 c.wh.args.length c5))[o]?=some x→W.cell? ⟨b,o,none⟩=some x) (q234:∀ W,S W→Calls Tryz.prog 35 #[.agg #[.int .i64 c.expr.k,.int .i64 c.expr.v.k,.int .i64 c.expr.v.n,.string ⟨c.expr.v.s.toArray⟩,.string ⟨c.expr.nm.toArray⟩,.slice a4 c.expr.args.length c4]] W fun e w'=>e=.returned (.bool (exR c.expr))∧S w') (ha:a0.tmps.size=272) (hS:S w)
  (hq:∀ a' w',S w'→a'.defers=a0.defers→a'.tmps.size=272→(∀ j d,k25_d[j]?=some (some d)→a'.tmps[d]?=some (ytY c a4 c4 b ok j))→(∀ d,some d ∉ k25_d→a'.tmps[d]?=a0.tmps[d]?)→Q .normal a' w'):(Code.region 25 k25_R false).wp Tryz.prog Q a0 w:=by
 have hz:k25_R.size=7:=by kernel_rfl
 refine yaT (m:=272) hz (by kernel_rfl) ymm (by kernel_rfl) ha ?_ hS hq
 refine us ?_ (ybf hz (by decide) (by kernel_rfl) fun _ _ s _=>yaV (x:=.tmp 235) (by kernel_rfl) (s.u 5 235 (by kernel_rfl)))
 refine us ?_ (ybf hz (by decide) (by kernel_rfl) fun _ _ s _=>yaE (G:=true) (by kernel_rfl) (s.u 1 231 (by kernel_rfl)) (s.u 4 234 (by kernel_rfl)) rfl rfl)
 refine us ?_ (yhV true 1 231 true hz (by decide) (by kernel_rfl) rfl rfl (fun hG _ _ s=>ybm (ts:=#[29]) (x:=.tmp 233) (f:=35) yuB (by kernel_rfl) rfl (s.g 3 233 (by kernel_rfl) hG rfl)) q234)
 refine us ?_ (ybi true 1 231 true hz (by decide) (by kernel_rfl) rfl rfl fun hG _ W s hS=>yas (x:=.tmp 232) (t:=29) (by kernel_rfl) (s.g 2 232 (by kernel_rfl) hG rfl) (ynK W _ 11 _ _ _ _ _ _ (hcell W hS 11 _ rfl) (hcell W hS 12 _ rfl) (hcell W hS 13 _ rfl) (hcell W hS 14 _ rfl) (hcell W hS 15 _ rfl) (hcell W hS 16 _ rfl)))
 refine us ?_ (ybi true 1 231 true hz (by decide) (by kernel_rfl) rfl rfl fun _ _ W s _=>yal (x:=.tmp 1) (t:=31) (f:=9) (by kernel_rfl) (s.b 1 (by kernel_rfl) h1) (fa9 W _))
 refine us ?_ (ybf hz (by decide) (by kernel_rfl) fun _ _ s _=>yai (x:=.tmp 230) (by kernel_rfl) (s.u 0 230 (by kernel_rfl)))
 refine us ?_ (ybf hz (by decide) (by kernel_rfl) fun _ _ s _=>yai (x:=.tmp 4) (by kernel_rfl) (s.b 4 (by kernel_rfl) h4))
 exact fun j hj=>absurd hj (Nat.not_lt_zero j)
noncomputable def k26_R:Array Oper:=((Tryz.f13.body).bind (yaC 26)).getD #[]
def ytZ (c:Cm) (a4:Option Addr) (c4:Nat) (b:Nat) (ok:Bool) (j:Nat):Value:=([.bool ok,.bool ok,gw (ok == true) (.pointer (some ⟨b,11,none⟩)),gw (ok == true) (.agg #[.int .i64 c.expr.k,.int .i64 c.expr.v.k,.int .i64 c.expr.v.n,.string ⟨c.expr.v.s.toArray⟩,.string ⟨c.expr.nm.toArray⟩,.slice a4 c.expr.args.length c4]),gw (ok == true) (.bool (ybw c.expr)),.bool (ok&&(ybw c.expr)),.bool (ok&&(ybw c.expr))]:List Value).getD j undef
def k26_d:List (Option Tmp):=[some 236,some 237,some 238,some 239,some 240,some 241,some 4]
theorem ymn:k26_d.Nodup:=by unfold k26_d;decide
theorem ysI {c:Cm} {a1 a2 a3 a4 a5:Option Addr} {c1 c2 c3 c4 c5:Nat} {b:Nat} {ok:Bool} {S:World→Prop} {a0:Act} {Q:Exit→Act→World→Prop} {w:World} (h1:a0.tmps[1]?=some (.pointer (some ⟨b,0,none⟩))) (h4:a0.tmps[4]?=some (.bool ok)) (hcell:∀ W,S W→∀ o x,(cmL c (.slice a1 c.cols.length c1) (.slice a2 c.vals.length c2) (.slice a3 c.fields.length c3) (.slice a4 c.expr.args.length c4) (.slice a5 c.wh.args.length c5))[o]?=some x→W.cell? ⟨b,o,none⟩=some x) (q240:∀ W,S W→Calls Tryz.prog 36 #[.agg #[.int .i64 c.expr.k,.int .i64 c.expr.v.k,.int .i64 c.expr.v.n,.string ⟨c.expr.v.s.toArray⟩,.string ⟨c.expr.nm.toArray⟩,.slice a4 c.expr.args.length c4]] W fun e w'=>e=.returned (.bool (ybw c.expr))∧S w') (ha:a0.tmps.size=272) (hS:S w)
  (hq:∀ a' w',S w'→a'.defers=a0.defers→a'.tmps.size=272→(∀ j d,k26_d[j]?=some (some d)→a'.tmps[d]?=some (ytZ c a4 c4 b ok j))→(∀ d,some d ∉ k26_d→a'.tmps[d]?=a0.tmps[d]?)→Q .normal a' w'):(Code.region 26 k26_R false).wp Tryz.prog Q a0 w:=by
 have hz:k26_R.size=7:=by kernel_rfl
 refine yaT (m:=272) hz (by kernel_rfl) ymn (by kernel_rfl) ha ?_ hS hq
 refine us ?_ (ybf hz (by decide) (by kernel_rfl) fun _ _ s _=>yaV (x:=.tmp 241) (by kernel_rfl) (s.u 5 241 (by kernel_rfl)))
 refine us ?_ (ybf hz (by decide) (by kernel_rfl) fun _ _ s _=>yaE (G:=true) (by kernel_rfl) (s.u 1 237 (by kernel_rfl)) (s.u 4 240 (by kernel_rfl)) rfl rfl)
 refine us ?_ (yhV true 1 237 true hz (by decide) (by kernel_rfl) rfl rfl (fun hG _ _ s=>ybm (ts:=#[29]) (x:=.tmp 239) (f:=36) yuC (by kernel_rfl) rfl (s.g 3 239 (by kernel_rfl) hG rfl)) q240)
 refine us ?_ (ybi true 1 237 true hz (by decide) (by kernel_rfl) rfl rfl fun hG _ W s hS=>yas (x:=.tmp 238) (t:=29) (by kernel_rfl) (s.g 2 238 (by kernel_rfl) hG rfl) (ynK W _ 11 _ _ _ _ _ _ (hcell W hS 11 _ rfl) (hcell W hS 12 _ rfl) (hcell W hS 13 _ rfl) (hcell W hS 14 _ rfl) (hcell W hS 15 _ rfl) (hcell W hS 16 _ rfl)))
 refine us ?_ (ybi true 1 237 true hz (by decide) (by kernel_rfl) rfl rfl fun _ _ W s _=>yal (x:=.tmp 1) (t:=31) (f:=9) (by kernel_rfl) (s.b 1 (by kernel_rfl) h1) (fa9 W _))
 refine us ?_ (ybf hz (by decide) (by kernel_rfl) fun _ _ s _=>yai (x:=.tmp 236) (by kernel_rfl) (s.u 0 236 (by kernel_rfl)))
 refine us ?_ (ybf hz (by decide) (by kernel_rfl) fun _ _ s _=>yai (x:=.tmp 4) (by kernel_rfl) (s.b 4 (by kernel_rfl) h4))
 exact fun j hj=>absurd hj (Nat.not_lt_zero j)
noncomputable def k27_R:Array Oper:=((Tryz.f13.body).bind (yaC 27)).getD #[]
def yt0 (c:Cm) (b:Nat) (j:Nat):Value:=([.int .i64 c.kind,.bool (ya6 c.kind 11 13),.bool (ya6 c.kind 11 13),gw ((ya6 c.kind 11 13) == true) (.pointer (some ⟨b,17,none⟩)),gw ((ya6 c.kind 11 13) == true) (.bool c.all),gw ((ya6 c.kind 11 13) == true) (.bool (!c.all)),.bool ((ya6 c.kind 11 13)&&(!c.all))]:List Value).getD j undef
def k27_d:List (Option Tmp):=[some 242,some 243,some 244,some 245,some 246,some 247,some 248]
theorem ymo:k27_d.Nodup:=by unfold k27_d;decide
theorem ysJ {c:Cm} {a1 a2 a3 a4 a5:Option Addr} {c1 c2 c3 c4 c5:Nat} {b:Nat} {S:World→Prop} {a0:Act} {Q:Exit→Act→World→Prop} {w:World} (h1:a0.tmps[1]?=some (.pointer (some ⟨b,0,none⟩))) (h3:a0.tmps[3]?=some (.int .i64 c.kind)) (hcell:∀ W,S W→∀ o x,(cmL c (.slice a1 c.cols.length c1) (.slice a2 c.vals.length c2) (.slice a3 c.fields.length c3) (.slice a4 c.expr.args.length c4) (.slice a5 c.wh.args.length c5))[o]?=some x→W.cell? ⟨b,o,none⟩=some x) (q243:∀ W,S W→Calls Tryz.prog 31 #[.int .i64 c.kind,.int .i64 11,.int .i64 13] W fun e w'=>e=.returned (.bool (ya6 c.kind 11 13))∧S w') (ha:a0.tmps.size=272) (hS:S w)
  (hq:∀ a' w',S w'→a'.defers=a0.defers→a'.tmps.size=272→(∀ j d,k27_d[j]?=some (some d)→a'.tmps[d]?=some (yt0 c b j))→(∀ d,some d ∉ k27_d→a'.tmps[d]?=a0.tmps[d]?)→Q .normal a' w'):(Code.region 27 k27_R false).wp Tryz.prog Q a0 w:=by
 have hz:k27_R.size=7:=by kernel_rfl
 refine yaT (m:=272) hz (by kernel_rfl) ymo (by kernel_rfl) ha ?_ hS hq
 refine us ?_ (ybf hz (by decide) (by kernel_rfl) fun _ _ s _=>yaE (G:=true) (by kernel_rfl) (s.u 2 244 (by kernel_rfl)) (s.u 5 247 (by kernel_rfl)) rfl rfl)
 refine us ?_ (ybi true 2 244 true hz (by decide) (by kernel_rfl) rfl rfl fun hG _ W s _=>ynX (x:=.tmp 246) (t:=4) (op:=.not) (by kernel_rfl) (s.g 4 246 (by kernel_rfl) hG rfl) (ytp W _))
 refine us ?_ (ybi true 2 244 true hz (by decide) (by kernel_rfl) rfl rfl fun hG _ W s hS=>yas (x:=.tmp 245) (t:=4) (by kernel_rfl) (s.g 3 245 (by kernel_rfl) hG rfl) (ld4 W _ 17 _ (hcell W hS 17 _ rfl)))
 refine us ?_ (ybi true 2 244 true hz (by decide) (by kernel_rfl) rfl rfl fun _ _ W s _=>yal (x:=.tmp 1) (t:=31) (f:=10) (by kernel_rfl) (s.b 1 (by kernel_rfl) h1) (ytn W _))
 refine us ?_ (ybf hz (by decide) (by kernel_rfl) fun _ _ s _=>yai (x:=.tmp 243) (by kernel_rfl) (s.u 1 243 (by kernel_rfl)))
 refine us ?_ (yvj hz (by decide) (by kernel_rfl) (fun _ _ s=>ydm (ts:=#[3,3,3]) (x:=.tmp 242) (y:=.const (.int .i64 11)) (z:=.const (.int .i64 13)) (f:=31) yql (by kernel_rfl) rfl (s.u 0 242 (by kernel_rfl)) (rfl) (rfl)) q243)
 refine us ?_ (ybf hz (by decide) (by kernel_rfl) fun _ _ s _=>yai (x:=.tmp 3) (by kernel_rfl) (s.b 3 (by kernel_rfl) h3))
 exact fun j hj=>absurd hj (Nat.not_lt_zero j)
noncomputable def k28_R:Array Oper:=((Tryz.f13.body).bind (yaC 28)).getD #[]
def yt1 (c:Cm) (a5:Option Addr) (c5:Nat) (b:Nat) (ok:Bool) (j:Nat):Value:=([.bool ok,.bool ok,gw (ok == true) (.pointer (some ⟨b,18,none⟩)),gw (ok == true) (.agg #[.int .i64 c.wh.k,.int .i64 c.wh.v.k,.int .i64 c.wh.v.n,.string ⟨c.wh.v.s.toArray⟩,.string ⟨c.wh.nm.toArray⟩,.slice a5 c.wh.args.length c5]),gw (ok == true) (.bool (exR c.wh)),.bool (ok&&(exR c.wh)),.bool (ok&&(exR c.wh))]:List Value).getD j undef
def k28_d:List (Option Tmp):=[some 249,some 250,some 251,some 252,some 253,some 254,some 4]
theorem ymp:k28_d.Nodup:=by unfold k28_d;decide
theorem ysK {c:Cm} {a1 a2 a3 a4 a5:Option Addr} {c1 c2 c3 c4 c5:Nat} {b:Nat} {ok:Bool} {S:World→Prop} {a0:Act} {Q:Exit→Act→World→Prop} {w:World} (h1:a0.tmps[1]?=some (.pointer (some ⟨b,0,none⟩))) (h4:a0.tmps[4]?=some (.bool ok)) (hcell:∀ W,S W→∀ o x,(cmL c (.slice a1 c.cols.length c1) (.slice a2 c.vals.length c2) (.slice a3 c.fields.length c3) (.slice a4 c.expr.args.length c4) (.slice a5 c.wh.args.length c5))[o]?=some x→W.cell? ⟨b,o,none⟩=some x) (q253:∀ W,S W→Calls Tryz.prog 35 #[.agg #[.int .i64 c.wh.k,.int .i64 c.wh.v.k,.int .i64 c.wh.v.n,.string ⟨c.wh.v.s.toArray⟩,.string ⟨c.wh.nm.toArray⟩,.slice a5 c.wh.args.length c5]] W fun e w'=>e=.returned (.bool (exR c.wh))∧S w') (ha:a0.tmps.size=272) (hS:S w)
  (hq:∀ a' w',S w'→a'.defers=a0.defers→a'.tmps.size=272→(∀ j d,k28_d[j]?=some (some d)→a'.tmps[d]?=some (yt1 c a5 c5 b ok j))→(∀ d,some d ∉ k28_d→a'.tmps[d]?=a0.tmps[d]?)→Q .normal a' w'):(Code.region 28 k28_R false).wp Tryz.prog Q a0 w:=by
 have hz:k28_R.size=7:=by kernel_rfl
 refine yaT (m:=272) hz (by kernel_rfl) ymp (by kernel_rfl) ha ?_ hS hq
 refine us ?_ (ybf hz (by decide) (by kernel_rfl) fun _ _ s _=>yaV (x:=.tmp 254) (by kernel_rfl) (s.u 5 254 (by kernel_rfl)))
 refine us ?_ (ybf hz (by decide) (by kernel_rfl) fun _ _ s _=>yaE (G:=true) (by kernel_rfl) (s.u 1 250 (by kernel_rfl)) (s.u 4 253 (by kernel_rfl)) rfl rfl)
 refine us ?_ (yhV true 1 250 true hz (by decide) (by kernel_rfl) rfl rfl (fun hG _ _ s=>ybm (ts:=#[29]) (x:=.tmp 252) (f:=35) yuB (by kernel_rfl) rfl (s.g 3 252 (by kernel_rfl) hG rfl)) q253)
 refine us ?_ (ybi true 1 250 true hz (by decide) (by kernel_rfl) rfl rfl fun hG _ W s hS=>yas (x:=.tmp 251) (t:=29) (by kernel_rfl) (s.g 2 251 (by kernel_rfl) hG rfl) (ynK W _ 18 _ _ _ _ _ _ (hcell W hS 18 _ rfl) (hcell W hS 19 _ rfl) (hcell W hS 20 _ rfl) (hcell W hS 21 _ rfl) (hcell W hS 22 _ rfl) (hcell W hS 23 _ rfl)))
 refine us ?_ (ybi true 1 250 true hz (by decide) (by kernel_rfl) rfl rfl fun _ _ W s _=>yal (x:=.tmp 1) (t:=31) (f:=11) (by kernel_rfl) (s.b 1 (by kernel_rfl) h1) (yrX W _))
 refine us ?_ (ybf hz (by decide) (by kernel_rfl) fun _ _ s _=>yai (x:=.tmp 249) (by kernel_rfl) (s.u 0 249 (by kernel_rfl)))
 refine us ?_ (ybf hz (by decide) (by kernel_rfl) fun _ _ s _=>yai (x:=.tmp 4) (by kernel_rfl) (s.b 4 (by kernel_rfl) h4))
 exact fun j hj=>absurd hj (Nat.not_lt_zero j)
noncomputable def k29_R:Array Oper:=((Tryz.f13.body).bind (yaC 29)).getD #[]
def yt2 (c:Cm) (a5:Option Addr) (c5:Nat) (b:Nat) (ok:Bool) (j:Nat):Value:=([.bool ok,.bool ok,gw (ok == true) (.pointer (some ⟨b,18,none⟩)),gw (ok == true) (.agg #[.int .i64 c.wh.k,.int .i64 c.wh.v.k,.int .i64 c.wh.v.n,.string ⟨c.wh.v.s.toArray⟩,.string ⟨c.wh.nm.toArray⟩,.slice a5 c.wh.args.length c5]),gw (ok == true) (.bool (ybw c.wh)),.bool (ok&&(ybw c.wh)),.bool (ok&&(ybw c.wh)),gw ((ok&&(ybw c.wh)) == true) (.int .i64 c.kind),gw ((ok&&(ybw c.wh)) == true) (.bool (ya6 c.kind 11 13)),gw ((ok&&(ybw c.wh)) == true) (.bool (ya6 c.kind 11 13)),gw (((ok&&(ybw c.wh)) == true)&&((ya6 c.kind 11 13) == false)) (.pointer (some ⟨b,17,none⟩)),gw (((ok&&(ybw c.wh)) == true)&&((ya6 c.kind 11 13) == false)) (.bool c.all),gw (((ok&&(ybw c.wh)) == true)&&((ya6 c.kind 11 13) == false)) (.bool (!c.all)),gw ((ok&&(ybw c.wh)) == true) (.bool ((ya6 c.kind 11 13) || (!c.all))),.bool ((ok&&(ybw c.wh))&&((ya6 c.kind 11 13) || (!c.all))),.bool ((ok&&(ybw c.wh))&&((ya6 c.kind 11 13) || (!c.all)))]:List Value).getD j undef
def k29_d:List (Option Tmp):=[some 255,some 256,some 257,some 258,some 259,some 260,some 261,some 262,some 263,some 264,some 265,some 266,some 267,some 268,some 269,some 4]
theorem ymq:k29_d.Nodup:=by unfold k29_d;decide
theorem ysL {c:Cm} {a1 a2 a3 a4 a5:Option Addr} {c1 c2 c3 c4 c5:Nat} {b:Nat} {ok:Bool} {S:World→Prop} {a0:Act} {Q:Exit→Act→World→Prop} {w:World} (h1:a0.tmps[1]?=some (.pointer (some ⟨b,0,none⟩))) (h3:a0.tmps[3]?=some (.int .i64 c.kind)) (h4:a0.tmps[4]?=some (.bool ok)) (hcell:∀ W,S W→∀ o x,(cmL c (.slice a1 c.cols.length c1) (.slice a2 c.vals.length c2) (.slice a3 c.fields.length c3) (.slice a4 c.expr.args.length c4) (.slice a5 c.wh.args.length c5))[o]?=some x→W.cell? ⟨b,o,none⟩=some x) (q259:∀ W,S W→Calls Tryz.prog 36 #[.agg #[.int .i64 c.wh.k,.int .i64 c.wh.v.k,.int .i64 c.wh.v.n,.string ⟨c.wh.v.s.toArray⟩,.string ⟨c.wh.nm.toArray⟩,.slice a5 c.wh.args.length c5]] W fun e w'=>e=.returned (.bool (ybw c.wh))∧S w') (q263:∀ W,S W→Calls Tryz.prog 31 #[.int .i64 c.kind,.int .i64 11,.int .i64 13] W fun e w'=>e=.returned (.bool (ya6 c.kind 11 13))∧S w') (ha:a0.tmps.size=272) (hS:S w)
  (hq:∀ a' w',S w'→a'.defers=a0.defers→a'.tmps.size=272→(∀ j d,k29_d[j]?=some (some d)→a'.tmps[d]?=some (yt2 c a5 c5 b ok j))→(∀ d,some d ∉ k29_d→a'.tmps[d]?=a0.tmps[d]?)→Q .normal a' w'):(Code.region 29 k29_R false).wp Tryz.prog Q a0 w:=by
 have hz:k29_R.size=16:=by kernel_rfl
 refine yaT (m:=272) hz (by kernel_rfl) ymq (by kernel_rfl) ha ?_ hS hq
 refine us ?_ (ybf hz (by decide) (by kernel_rfl) fun _ _ s _=>yaV (x:=.tmp 269) (by kernel_rfl) (s.u 14 269 (by kernel_rfl)))
 refine us ?_ (ybf hz (by decide) (by kernel_rfl) fun _ _ s _=>yaE (G:=true) (by kernel_rfl) (s.u 6 261 (by kernel_rfl)) (s.u 13 268 (by kernel_rfl)) rfl rfl)
 refine us ?_ (ybi true 6 261 true hz (by decide) (by kernel_rfl) rfl rfl fun hG _ _ s _=>ybI (by kernel_rfl) (s.g 9 264 (by kernel_rfl) hG rfl) (s.u 12 267 (by kernel_rfl)) rfl hG)
 refine us ?_ (ybi _ 9 264 false hz (by decide) (by kernel_rfl) rfl rfl fun hG _ W s _=>ynX (x:=.tmp 266) (t:=4) (op:=.not) (by kernel_rfl) (s.g 11 266 (by kernel_rfl) hG rfl) (ytp W _))
 refine us ?_ (ybi _ 9 264 false hz (by decide) (by kernel_rfl) rfl rfl fun hG _ W s hS=>yas (x:=.tmp 265) (t:=4) (by kernel_rfl) (s.g 10 265 (by kernel_rfl) hG rfl) (ld4 W _ 17 _ (hcell W hS 17 _ rfl)))
 refine us ?_ (ybi _ 9 264 false hz (by decide) (by kernel_rfl) rfl rfl fun _ _ W s _=>yal (x:=.tmp 1) (t:=31) (f:=10) (by kernel_rfl) (s.b 1 (by kernel_rfl) h1) (ytn W _))
 refine us ?_ (ybi true 6 261 true hz (by decide) (by kernel_rfl) rfl rfl fun hG _ _ s _=>yai (x:=.tmp 263) (by kernel_rfl) (s.g 8 263 (by kernel_rfl) hG rfl))
 refine us ?_ (yhV true 6 261 true hz (by decide) (by kernel_rfl) rfl rfl (fun hG _ _ s=>ydm (ts:=#[3,3,3]) (x:=.tmp 262) (y:=.const (.int .i64 11)) (z:=.const (.int .i64 13)) (f:=31) yql (by kernel_rfl) rfl (s.g 7 262 (by kernel_rfl) hG rfl) (rfl) (rfl)) q263)
 refine us ?_ (ybi true 6 261 true hz (by decide) (by kernel_rfl) rfl rfl fun _ _ _ s _=>yai (x:=.tmp 3) (by kernel_rfl) (s.b 3 (by kernel_rfl) h3))
 refine us ?_ (ybf hz (by decide) (by kernel_rfl) fun _ _ s _=>yai (x:=.tmp 260) (by kernel_rfl) (s.u 5 260 (by kernel_rfl)))
 refine us ?_ (ybf hz (by decide) (by kernel_rfl) fun _ _ s _=>yaE (G:=true) (by kernel_rfl) (s.u 1 256 (by kernel_rfl)) (s.u 4 259 (by kernel_rfl)) rfl rfl)
 refine us ?_ (yhV true 1 256 true hz (by decide) (by kernel_rfl) rfl rfl (fun hG _ _ s=>ybm (ts:=#[29]) (x:=.tmp 258) (f:=36) yuC (by kernel_rfl) rfl (s.g 3 258 (by kernel_rfl) hG rfl)) q259)
 refine us ?_ (ybi true 1 256 true hz (by decide) (by kernel_rfl) rfl rfl fun hG _ W s hS=>yas (x:=.tmp 257) (t:=29) (by kernel_rfl) (s.g 2 257 (by kernel_rfl) hG rfl) (ynK W _ 18 _ _ _ _ _ _ (hcell W hS 18 _ rfl) (hcell W hS 19 _ rfl) (hcell W hS 20 _ rfl) (hcell W hS 21 _ rfl) (hcell W hS 22 _ rfl) (hcell W hS 23 _ rfl)))
 refine us ?_ (ybi true 1 256 true hz (by decide) (by kernel_rfl) rfl rfl fun _ _ W s _=>yal (x:=.tmp 1) (t:=31) (f:=11) (by kernel_rfl) (s.b 1 (by kernel_rfl) h1) (yrX W _))
 refine us ?_ (ybf hz (by decide) (by kernel_rfl) fun _ _ s _=>yai (x:=.tmp 255) (by kernel_rfl) (s.u 0 255 (by kernel_rfl)))
 refine us ?_ (ybf hz (by decide) (by kernel_rfl) fun _ _ s _=>yai (x:=.tmp 4) (by kernel_rfl) (s.b 4 (by kernel_rfl) h4))
 exact fun j hj=>absurd hj (Nat.not_lt_zero j)
noncomputable def k30_R:Array Oper:=((Tryz.f13.body).bind (yaC 30)).getD #[]
def yt4 (ok:Bool) (j:Nat):Value:=([.bool ok,.bool (!ok)]:List Value).getD j undef
def k30_d:List (Option Tmp):=[some 270,some 271]
theorem ymr:k30_d.Nodup:=by unfold k30_d;decide
theorem ysM {ok:Bool} {S:World→Prop} {a0:Act} {Q:Exit→Act→World→Prop} {w:World} (h4:a0.tmps[4]?=some (.bool ok)) (ha:a0.tmps.size=272) (hS:S w)
  (hq:∀ a' w',S w'→a'.defers=a0.defers→a'.tmps.size=272→(∀ j d,k30_d[j]?=some (some d)→a'.tmps[d]?=some (yt4 ok j))→(∀ d,some d ∉ k30_d→a'.tmps[d]?=a0.tmps[d]?)→Q .normal a' w'):(Code.region 30 k30_R false).wp Tryz.prog Q a0 w:=by
 have hz:k30_R.size=2:=by kernel_rfl
 refine yaT (m:=272) hz (by kernel_rfl) ymr (by kernel_rfl) ha ?_ hS hq
 refine us ?_ (ybf hz (by decide) (by kernel_rfl) fun _ W s _=>ynX (x:=.tmp 270) (t:=4) (op:=.not) (by kernel_rfl) (s.u 0 270 (by kernel_rfl)) (ytp W _))
 refine us ?_ (ybf hz (by decide) (by kernel_rfl) fun _ _ s _=>yai (x:=.tmp 4) (by kernel_rfl) (s.b 4 (by kernel_rfl) h4))
 exact fun j hj=>absurd hj (Nat.not_lt_zero j)
noncomputable def ckr_R:Array Oper:=((Tryz.f13.body).bind (yaC 4)).getD #[]
def ytA (c:Cm) (b:Nat) (j:Nat):Value:=([.int .i64 c.kind,.bool (ya6 c.kind 1 16),.bool (ya6 c.kind 1 16),gw ((ya6 c.kind 1 16) == true) (.pointer (some ⟨b,1,none⟩)),gw ((ya6 c.kind 1 16) == true) (.string ⟨c.name.toArray⟩),gw ((ya6 c.kind 1 16) == true) (.int .i64 c.kind),gw ((ya6 c.kind 1 16) == true) (.bool (decide (c.kind≤13))),gw ((ya6 c.kind 1 16) == true) (.bool (yaB c.name (decide (c.kind≤13)))),.bool ((ya6 c.kind 1 16)&&(yaB c.name (decide (c.kind≤13)))),.bool ((ya6 c.kind 1 16)&&(yaB c.name (decide (c.kind≤13)))),gw (((ya6 c.kind 1 16)&&(yaB c.name (decide (c.kind≤13)))) == true) (.pointer (some ⟨b,2,none⟩)),gw (((ya6 c.kind 1 16)&&(yaB c.name (decide (c.kind≤13)))) == true) (.string ⟨c.other.toArray⟩),gw (((ya6 c.kind 1 16)&&(yaB c.name (decide (c.kind≤13)))) == true) (.int .i64 c.kind),gw (((ya6 c.kind 1 16)&&(yaB c.name (decide (c.kind≤13)))) == true) (.bool (decide (c.kind=5))),gw (((ya6 c.kind 1 16)&&(yaB c.name (decide (c.kind≤13)))) == true) (.bool (decide (c.kind=5))),gw ((((ya6 c.kind 1 16)&&(yaB c.name (decide (c.kind≤13)))) == true)&&((decide (c.kind=5)) == false)) (.int .i64 c.kind),gw ((((ya6 c.kind 1 16)&&(yaB c.name (decide (c.kind≤13)))) == true)&&((decide (c.kind=5)) == false)) (.bool (decide (c.kind=7))),gw (((ya6 c.kind 1 16)&&(yaB c.name (decide (c.kind≤13)))) == true) (.bool ((decide (c.kind=5)) || (decide (c.kind=7)))),gw (((ya6 c.kind 1 16)&&(yaB c.name (decide (c.kind≤13)))) == true) (.bool ((decide (c.kind=5)) || (decide (c.kind=7)))),gw ((((ya6 c.kind 1 16)&&(yaB c.name (decide (c.kind≤13)))) == true)&&(((decide (c.kind=5)) || (decide (c.kind=7))) == false)) (.int .i64 c.kind),gw ((((ya6 c.kind 1 16)&&(yaB c.name (decide (c.kind≤13)))) == true)&&(((decide (c.kind=5)) || (decide (c.kind=7))) == false)) (.bool (decide (c.kind=8))),gw (((ya6 c.kind 1 16)&&(yaB c.name (decide (c.kind≤13)))) == true) (.bool (((decide (c.kind=5)) || (decide (c.kind=7))) || (decide (c.kind=8)))),gw (((ya6 c.kind 1 16)&&(yaB c.name (decide (c.kind≤13)))) == true) (.bool (yaB c.other (((decide (c.kind=5)) || (decide (c.kind=7))) || (decide (c.kind=8))))),.bool (((ya6 c.kind 1 16)&&(yaB c.name (decide (c.kind≤13))))&&(yaB c.other (((decide (c.kind=5)) || (decide (c.kind=7))) || (decide (c.kind=8))))),.bool (((ya6 c.kind 1 16)&&(yaB c.name (decide (c.kind≤13))))&&(yaB c.other (((decide (c.kind=5)) || (decide (c.kind=7))) || (decide (c.kind=8))))),gw ((((ya6 c.kind 1 16)&&(yaB c.name (decide (c.kind≤13))))&&(yaB c.other (((decide (c.kind=5)) || (decide (c.kind=7))) || (decide (c.kind=8))))) == true) (.pointer (some ⟨b,3,none⟩)),gw ((((ya6 c.kind 1 16)&&(yaB c.name (decide (c.kind≤13))))&&(yaB c.other (((decide (c.kind=5)) || (decide (c.kind=7))) || (decide (c.kind=8))))) == true) (.string ⟨c.column.toArray⟩),gw ((((ya6 c.kind 1 16)&&(yaB c.name (decide (c.kind≤13))))&&(yaB c.other (((decide (c.kind=5)) || (decide (c.kind=7))) || (decide (c.kind=8))))) == true) (.int .i64 c.kind),gw ((((ya6 c.kind 1 16)&&(yaB c.name (decide (c.kind≤13))))&&(yaB c.other (((decide (c.kind=5)) || (decide (c.kind=7))) || (decide (c.kind=8))))) == true) (.bool (ya6 c.kind 3 6)),gw ((((ya6 c.kind 1 16)&&(yaB c.name (decide (c.kind≤13))))&&(yaB c.other (((decide (c.kind=5)) || (decide (c.kind=7))) || (decide (c.kind=8))))) == true) (.bool (ya6 c.kind 3 6)),gw (((((ya6 c.kind 1 16)&&(yaB c.name (decide (c.kind≤13))))&&(yaB c.other (((decide (c.kind=5)) || (decide (c.kind=7))) || (decide (c.kind=8))))) == true)&&((ya6 c.kind 3 6) == false)) (.int .i64 c.kind),gw (((((ya6 c.kind 1 16)&&(yaB c.name (decide (c.kind≤13))))&&(yaB c.other (((decide (c.kind=5)) || (decide (c.kind=7))) || (decide (c.kind=8))))) == true)&&((ya6 c.kind 3 6) == false)) (.bool (decide (c.kind=8))),gw ((((ya6 c.kind 1 16)&&(yaB c.name (decide (c.kind≤13))))&&(yaB c.other (((decide (c.kind=5)) || (decide (c.kind=7))) || (decide (c.kind=8))))) == true) (.bool ((ya6 c.kind 3 6) || (decide (c.kind=8)))),gw ((((ya6 c.kind 1 16)&&(yaB c.name (decide (c.kind≤13))))&&(yaB c.other (((decide (c.kind=5)) || (decide (c.kind=7))) || (decide (c.kind=8))))) == true) (.bool ((ya6 c.kind 3 6) || (decide (c.kind=8)))),gw (((((ya6 c.kind 1 16)&&(yaB c.name (decide (c.kind≤13))))&&(yaB c.other (((decide (c.kind=5)) || (decide (c.kind=7))) || (decide (c.kind=8))))) == true)&&(((ya6 c.kind 3 6) || (decide (c.kind=8))) == false)) (.int .i64 c.kind),gw (((((ya6 c.kind 1 16)&&(yaB c.name (decide (c.kind≤13))))&&(yaB c.other (((decide (c.kind=5)) || (decide (c.kind=7))) || (decide (c.kind=8))))) == true)&&(((ya6 c.kind 3 6) || (decide (c.kind=8))) == false)) (.bool (decide (c.kind=12))),gw ((((ya6 c.kind 1 16)&&(yaB c.name (decide (c.kind≤13))))&&(yaB c.other (((decide (c.kind=5)) || (decide (c.kind=7))) || (decide (c.kind=8))))) == true) (.bool (((ya6 c.kind 3 6) || (decide (c.kind=8))) || (decide (c.kind=12)))),gw ((((ya6 c.kind 1 16)&&(yaB c.name (decide (c.kind≤13))))&&(yaB c.other (((decide (c.kind=5)) || (decide (c.kind=7))) || (decide (c.kind=8))))) == true) (.bool (yaB c.column (((ya6 c.kind 3 6) || (decide (c.kind=8))) || (decide (c.kind=12))))),.bool ((((ya6 c.kind 1 16)&&(yaB c.name (decide (c.kind≤13))))&&(yaB c.other (((decide (c.kind=5)) || (decide (c.kind=7))) || (decide (c.kind=8)))))&&(yaB c.column (((ya6 c.kind 3 6) || (decide (c.kind=8))) || (decide (c.kind=12))))),.bool ((((ya6 c.kind 1 16)&&(yaB c.name (decide (c.kind≤13))))&&(yaB c.other (((decide (c.kind=5)) || (decide (c.kind=7))) || (decide (c.kind=8)))))&&(yaB c.column (((ya6 c.kind 3 6) || (decide (c.kind=8))) || (decide (c.kind=12)))))]:List Value).getD j undef
def ckr_d:List (Option Tmp):=[some 38,some 39,some 40,some 41,some 42,some 43,some 44,some 45,some 46,some 47,some 48,some 49,some 50,some 51,some 52,some 53,some 54,some 55,some 56,some 57,some 58,some 59,some 60,some 61,some 62,some 63,some 64,some 65,some 66,some 67,some 68,some 69,some 70,some 71,some 72,some 73,some 74,some 75,some 76,some 4]
theorem yg1:ckr_d.Nodup:=by unfold ckr_d;decide
theorem yrP {c:Cm} {cv vv fv ea wa:Value} {b:Nat} {S:World→Prop} {a0:Act} {Q:Exit→Act→World→Prop} {w:World} (h1:a0.tmps[1]?=some (.pointer (some ⟨b,0,none⟩))) (h3:a0.tmps[3]?=some (.int .i64 c.kind)) (hcell:∀ W,S W→∀ o x,(cmL c cv vv fv ea wa)[o]?=some x→W.cell? ⟨b,o,none⟩=some x) (q39:∀ W,S W→Calls Tryz.prog 31 #[.int .i64 c.kind,.int .i64 1,.int .i64 16] W fun e w'=>e=.returned (.bool (ya6 c.kind 1 16))∧S w') (q45:∀ W,S W→Calls Tryz.prog 32 #[.string ⟨c.name.toArray⟩,.bool (decide (c.kind≤13))] W fun e w'=>e=.returned (.bool (yaB c.name (decide (c.kind≤13))))∧S w') (q60:∀ W,S W→Calls Tryz.prog 32 #[.string ⟨c.other.toArray⟩,.bool (((decide (c.kind=5)) || (decide (c.kind=7))) || (decide (c.kind=8)))] W fun e w'=>e=.returned (.bool (yaB c.other (((decide (c.kind=5)) || (decide (c.kind=7))) || (decide (c.kind=8)))))∧S w') (q66:∀ W,S W→Calls Tryz.prog 31 #[.int .i64 c.kind,.int .i64 3,.int .i64 6] W fun e w'=>e=.returned (.bool (ya6 c.kind 3 6))∧S w') (q75:∀ W,S W→Calls Tryz.prog 32 #[.string ⟨c.column.toArray⟩,.bool (((ya6 c.kind 3 6) || (decide (c.kind=8))) || (decide (c.kind=12)))] W fun e w'=>e=.returned (.bool (yaB c.column (((ya6 c.kind 3 6) || (decide (c.kind=8))) || (decide (c.kind=12)))))∧S w') (ha:a0.tmps.size=272) (hS:S w.drew)
  (hq:∀ w',S w'→Q .normal { tmps:=(ygh a0.tmps.toList (ckr_d.zip ((List.range 40).map (ytA c b)))).toArray,defers:=a0.defers } w'):(Code.region 4 ckr_R true).wp Tryz.prog Q a0 w:=by
 have hz:ckr_R.size=40:=by kernel_rfl
 refine ynG (m:=272) (by kernel_rfl) hz (by kernel_rfl) (by kernel_rfl) yg1 ha ?_ hS hq
 refine us ?_ (yc5 hz (by decide) (by kernel_rfl) fun _ _ s _=>yaV (x:=.tmp 76) (by kernel_rfl) (s.u 38 76 (by kernel_rfl)))
 refine us ?_ (yc5 hz (by decide) (by kernel_rfl) fun _ _ s _=>yaE (G:=true) (by kernel_rfl) (s.u 24 62 (by kernel_rfl)) (s.u 37 75 (by kernel_rfl)) rfl rfl)
 refine us ?_ (yd8 true 24 62 true hz (by decide) (by kernel_rfl) rfl rfl (fun hG _ _ s=>ycT (ts:=#[9,4]) (x:=.tmp 64) (y:=.tmp 74) (f:=32) ytx (by kernel_rfl) rfl (s.g 26 64 (by kernel_rfl) hG rfl) (s.g 36 74 (by kernel_rfl) hG rfl)) q75)
 refine us ?_ (ya5 true 24 62 true hz (by decide) (by kernel_rfl) rfl rfl fun hG _ _ s _=>ybI (by kernel_rfl) (s.g 33 71 (by kernel_rfl) hG rfl) (s.u 35 73 (by kernel_rfl)) rfl hG)
 refine us ?_ (ya5 _ 33 71 false hz (by decide) (by kernel_rfl) rfl rfl fun hG _ W s _=>yaR (u:=3) (x:=.tmp 72) (y:=.const (.int .i64 12)) (by kernel_rfl) (s.g 34 72 (by kernel_rfl) hG rfl) (rfl) (ye0 W _ _ _ _))
 refine us ?_ (ya5 _ 33 71 false hz (by decide) (by kernel_rfl) rfl rfl fun _ _ _ s _=>yai (x:=.tmp 3) (by kernel_rfl) (s.b 3 (by kernel_rfl) h3))
 refine us ?_ (ya5 true 24 62 true hz (by decide) (by kernel_rfl) rfl rfl fun hG _ _ s _=>yai (x:=.tmp 70) (by kernel_rfl) (s.g 32 70 (by kernel_rfl) hG rfl))
 refine us ?_ (ya5 true 24 62 true hz (by decide) (by kernel_rfl) rfl rfl fun hG _ _ s _=>ybI (by kernel_rfl) (s.g 29 67 (by kernel_rfl) hG rfl) (s.u 31 69 (by kernel_rfl)) rfl hG)
 refine us ?_ (ya5 _ 29 67 false hz (by decide) (by kernel_rfl) rfl rfl fun hG _ W s _=>yaR (u:=3) (x:=.tmp 68) (y:=.const (.int .i64 8)) (by kernel_rfl) (s.g 30 68 (by kernel_rfl) hG rfl) (rfl) (ye0 W _ _ _ _))
 refine us ?_ (ya5 _ 29 67 false hz (by decide) (by kernel_rfl) rfl rfl fun _ _ _ s _=>yai (x:=.tmp 3) (by kernel_rfl) (s.b 3 (by kernel_rfl) h3))
 refine us ?_ (ya5 true 24 62 true hz (by decide) (by kernel_rfl) rfl rfl fun hG _ _ s _=>yai (x:=.tmp 66) (by kernel_rfl) (s.g 28 66 (by kernel_rfl) hG rfl))
 refine us ?_ (yd8 true 24 62 true hz (by decide) (by kernel_rfl) rfl rfl (fun hG _ _ s=>ydm (ts:=#[3,3,3]) (x:=.tmp 65) (y:=.const (.int .i64 3)) (z:=.const (.int .i64 6)) (f:=31) yql (by kernel_rfl) rfl (s.g 27 65 (by kernel_rfl) hG rfl) (rfl) (rfl)) q66)
 refine us ?_ (ya5 true 24 62 true hz (by decide) (by kernel_rfl) rfl rfl fun _ _ _ s _=>yai (x:=.tmp 3) (by kernel_rfl) (s.b 3 (by kernel_rfl) h3))
 refine us ?_ (ya5 true 24 62 true hz (by decide) (by kernel_rfl) rfl rfl fun hG _ W s hS=>yas (x:=.tmp 63) (t:=9) (by kernel_rfl) (s.g 25 63 (by kernel_rfl) hG rfl) (ld9 W _ 3 _ (hcell W hS 3 _ rfl)))
 refine us ?_ (ya5 true 24 62 true hz (by decide) (by kernel_rfl) rfl rfl fun _ _ W s _=>yal (x:=.tmp 1) (t:=31) (f:=3) (by kernel_rfl) (s.b 1 (by kernel_rfl) h1) (fa3 W _))
 refine us ?_ (yc5 hz (by decide) (by kernel_rfl) fun _ _ s _=>yai (x:=.tmp 61) (by kernel_rfl) (s.u 23 61 (by kernel_rfl)))
 refine us ?_ (yc5 hz (by decide) (by kernel_rfl) fun _ _ s _=>yaE (G:=true) (by kernel_rfl) (s.u 9 47 (by kernel_rfl)) (s.u 22 60 (by kernel_rfl)) rfl rfl)
 refine us ?_ (yd8 true 9 47 true hz (by decide) (by kernel_rfl) rfl rfl (fun hG _ _ s=>ycT (ts:=#[9,4]) (x:=.tmp 49) (y:=.tmp 59) (f:=32) ytx (by kernel_rfl) rfl (s.g 11 49 (by kernel_rfl) hG rfl) (s.g 21 59 (by kernel_rfl) hG rfl)) q60)
 refine us ?_ (ya5 true 9 47 true hz (by decide) (by kernel_rfl) rfl rfl fun hG _ _ s _=>ybI (by kernel_rfl) (s.g 18 56 (by kernel_rfl) hG rfl) (s.u 20 58 (by kernel_rfl)) rfl hG)
 refine us ?_ (ya5 _ 18 56 false hz (by decide) (by kernel_rfl) rfl rfl fun hG _ W s _=>yaR (u:=3) (x:=.tmp 57) (y:=.const (.int .i64 8)) (by kernel_rfl) (s.g 19 57 (by kernel_rfl) hG rfl) (rfl) (ye0 W _ _ _ _))
 refine us ?_ (ya5 _ 18 56 false hz (by decide) (by kernel_rfl) rfl rfl fun _ _ _ s _=>yai (x:=.tmp 3) (by kernel_rfl) (s.b 3 (by kernel_rfl) h3))
 refine us ?_ (ya5 true 9 47 true hz (by decide) (by kernel_rfl) rfl rfl fun hG _ _ s _=>yai (x:=.tmp 55) (by kernel_rfl) (s.g 17 55 (by kernel_rfl) hG rfl))
 refine us ?_ (ya5 true 9 47 true hz (by decide) (by kernel_rfl) rfl rfl fun hG _ _ s _=>ybI (by kernel_rfl) (s.g 14 52 (by kernel_rfl) hG rfl) (s.u 16 54 (by kernel_rfl)) rfl hG)
 refine us ?_ (ya5 _ 14 52 false hz (by decide) (by kernel_rfl) rfl rfl fun hG _ W s _=>yaR (u:=3) (x:=.tmp 53) (y:=.const (.int .i64 7)) (by kernel_rfl) (s.g 15 53 (by kernel_rfl) hG rfl) (rfl) (ye0 W _ _ _ _))
 refine us ?_ (ya5 _ 14 52 false hz (by decide) (by kernel_rfl) rfl rfl fun _ _ _ s _=>yai (x:=.tmp 3) (by kernel_rfl) (s.b 3 (by kernel_rfl) h3))
 refine us ?_ (ya5 true 9 47 true hz (by decide) (by kernel_rfl) rfl rfl fun hG _ _ s _=>yai (x:=.tmp 51) (by kernel_rfl) (s.g 13 51 (by kernel_rfl) hG rfl))
 refine us ?_ (ya5 true 9 47 true hz (by decide) (by kernel_rfl) rfl rfl fun hG _ W s _=>yaR (u:=3) (x:=.tmp 50) (y:=.const (.int .i64 5)) (by kernel_rfl) (s.g 12 50 (by kernel_rfl) hG rfl) (rfl) (ye0 W _ _ _ _))
 refine us ?_ (ya5 true 9 47 true hz (by decide) (by kernel_rfl) rfl rfl fun _ _ _ s _=>yai (x:=.tmp 3) (by kernel_rfl) (s.b 3 (by kernel_rfl) h3))
 refine us ?_ (ya5 true 9 47 true hz (by decide) (by kernel_rfl) rfl rfl fun hG _ W s hS=>yas (x:=.tmp 48) (t:=9) (by kernel_rfl) (s.g 10 48 (by kernel_rfl) hG rfl) (ld9 W _ 2 _ (hcell W hS 2 _ rfl)))
 refine us ?_ (ya5 true 9 47 true hz (by decide) (by kernel_rfl) rfl rfl fun _ _ W s _=>yal (x:=.tmp 1) (t:=31) (f:=2) (by kernel_rfl) (s.b 1 (by kernel_rfl) h1) (fa2 W _))
 refine us ?_ (yc5 hz (by decide) (by kernel_rfl) fun _ _ s _=>yai (x:=.tmp 46) (by kernel_rfl) (s.u 8 46 (by kernel_rfl)))
 refine us ?_ (yc5 hz (by decide) (by kernel_rfl) fun _ _ s _=>yaE (G:=true) (by kernel_rfl) (s.u 2 40 (by kernel_rfl)) (s.u 7 45 (by kernel_rfl)) rfl rfl)
 refine us ?_ (yd8 true 2 40 true hz (by decide) (by kernel_rfl) rfl rfl (fun hG _ _ s=>ycT (ts:=#[9,4]) (x:=.tmp 42) (y:=.tmp 44) (f:=32) ytx (by kernel_rfl) rfl (s.g 4 42 (by kernel_rfl) hG rfl) (s.g 6 44 (by kernel_rfl) hG rfl)) q45)
 refine us ?_ (ya5 true 2 40 true hz (by decide) (by kernel_rfl) rfl rfl fun hG _ W s _=>yaR (u:=3) (x:=.tmp 43) (y:=.const (.int .i64 13)) (by kernel_rfl) (s.g 5 43 (by kernel_rfl) hG rfl) (rfl) (ysS W _ _ _ _))
 refine us ?_ (ya5 true 2 40 true hz (by decide) (by kernel_rfl) rfl rfl fun _ _ _ s _=>yai (x:=.tmp 3) (by kernel_rfl) (s.b 3 (by kernel_rfl) h3))
 refine us ?_ (ya5 true 2 40 true hz (by decide) (by kernel_rfl) rfl rfl fun hG _ W s hS=>yas (x:=.tmp 41) (t:=9) (by kernel_rfl) (s.g 3 41 (by kernel_rfl) hG rfl) (ld9 W _ 1 _ (hcell W hS 1 _ rfl)))
 refine us ?_ (ya5 true 2 40 true hz (by decide) (by kernel_rfl) rfl rfl fun _ _ W s _=>yal (x:=.tmp 1) (t:=31) (f:=1) (by kernel_rfl) (s.b 1 (by kernel_rfl) h1) (fa1 W _))
 refine us ?_ (yc5 hz (by decide) (by kernel_rfl) fun _ _ s _=>yai (x:=.tmp 39) (by kernel_rfl) (s.u 1 39 (by kernel_rfl)))
 refine us ?_ (yuH hz (by decide) (by kernel_rfl) (fun _ _ s=>ydm (ts:=#[3,3,3]) (x:=.tmp 38) (y:=.const (.int .i64 1)) (z:=.const (.int .i64 16)) (f:=31) yql (by kernel_rfl) rfl (s.u 0 38 (by kernel_rfl)) (rfl) (rfl)) q39)
 refine us ?_ (yc5 hz (by decide) (by kernel_rfl) fun _ _ s _=>yai (x:=.tmp 3) (by kernel_rfl) (s.b 3 (by kernel_rfl) h3))
 exact fun j hj=>absurd hj (Nat.not_lt_zero j)
structure Fr (a:Act) (b:Nat) (k:Int) (ok:Bool):Prop where
 size:a.tmps.size=272
 defers:a.defers=[]
 t1:a.tmps[1]?=some (.pointer (some ⟨b,0,none⟩))
 t3:a.tmps[3]?=some (.int .i64 k)
 t4:a.tmps[4]?=some (.bool ok)
theorem Fr.next {a a':Act} {b:Nat} {k:Int} {ok ok':Bool} (h:Fr a b k ok) (hd:a'.defers=a.defers) (hz:a'.tmps.size=272) (h1:a'.tmps[1]?=a.tmps[1]?) (h3:a'.tmps[3]?=a.tmps[3]?) (h4:a'.tmps[4]?=some (.bool ok')):Fr a' b k ok' :=
 ⟨hz,hd.trans h.defers,h1.trans h.t1,h3.trans h.t3,h4⟩
theorem Fr.stay {a a':Act} {b:Nat} {k:Int} {ok:Bool} (h:Fr a b k ok) (hd:a'.defers=a.defers) (hz:a'.tmps.size=272) (h1:a'.tmps[1]?=a.tmps[1]?) (h3:a'.tmps[3]?=a.tmps[3]?) (h4:a'.tmps[4]?=a.tmps[4]?):Fr a' b k ok :=
 h.next hd hz h1 h3 (h4.trans h.t4)
structure CkS (c:Cm) (b:Nat) (a1 a2 a3 a4 a5:Option Addr) (c1 c2 c3 c4 c5:Nat) (S:World→Prop):Prop where
 cell:∀ W,S W→∀ o x,(cmL c (.slice a1 c.cols.length c1) (.slice a2 c.vals.length c2) (.slice a3 c.fields.length c3) (.slice a4 c.expr.args.length c4) (.slice a5 c.wh.args.length c5))[o]?=some x→W.cell? ⟨b,o,none⟩=some x
 drew:∀ W,S W→S W.drew
 btw:∀ (n x y:Int) W,S W→Calls Tryz.prog 31 #[.int .i64 n,.int .i64 x,.int .i64 y] W fun e w'=>e=.returned (.bool (ya6 n x y))∧S w'
 nmi:∀ (s:List UInt8) (p:Bool),s.length≤140737488355328→∀ W,S W→Calls Tryz.prog 32 #[.string ⟨s.toArray⟩,.bool p] W fun e w'=>e=.returned (.bool (yaB s p))∧S w'
 nam:∀ s:List UInt8,s.length≤140737488355328→∀ W,S W→Calls Tryz.prog 34 #[.string ⟨s.toArray⟩] W fun e w'=>e=.returned (.bool (yap s))∧S w'
 ckv:∀ v:Vl,v.s.length≤140737488355328→∀ W,S W→Calls Tryz.prog 33 #[.agg #[.int .i64 v.k,.int .i64 v.n,.string ⟨v.s.toArray⟩]] W fun e w'=>e=.returned (.int .i64 ((ycw v.k v.n v.s:Nat):Int))∧S w'
 smv:∀ v:Vl,∀ W,S W→Calls Tryz.prog 25 #[.agg #[.int .i64 v.k,.int .i64 v.n,.string ⟨v.s.toArray⟩],.agg #[.int .i64 0,.int .i64 0,.string ⟨#[]⟩]] W fun e w'=>e=.returned (.bool (ybU v))∧S w'
 ixe:∀ W,S W→Calls Tryz.prog 35 #[.agg #[.int .i64 c.expr.k,.int .i64 c.expr.v.k,.int .i64 c.expr.v.n,.string ⟨c.expr.v.s.toArray⟩,.string ⟨c.expr.nm.toArray⟩,.slice a4 c.expr.args.length c4]] W fun e w'=>e=.returned (.bool (exR c.expr))∧S w'
 ixw:∀ W,S W→Calls Tryz.prog 35 #[.agg #[.int .i64 c.wh.k,.int .i64 c.wh.v.k,.int .i64 c.wh.v.n,.string ⟨c.wh.v.s.toArray⟩,.string ⟨c.wh.nm.toArray⟩,.slice a5 c.wh.args.length c5]] W fun e w'=>e=.returned (.bool (exR c.wh))∧S w'
 noe:∀ W,S W→Calls Tryz.prog 36 #[.agg #[.int .i64 c.expr.k,.int .i64 c.expr.v.k,.int .i64 c.expr.v.n,.string ⟨c.expr.v.s.toArray⟩,.string ⟨c.expr.nm.toArray⟩,.slice a4 c.expr.args.length c4]] W fun e w'=>e=.returned (.bool (ybw c.expr))∧S w'
 now:∀ W,S W→Calls Tryz.prog 36 #[.agg #[.int .i64 c.wh.k,.int .i64 c.wh.v.k,.int .i64 c.wh.v.n,.string ⟨c.wh.v.s.toArray⟩,.string ⟨c.wh.nm.toArray⟩,.slice a5 c.wh.args.length c5]] W fun e w'=>e=.returned (.bool (ybw c.wh))∧S w'
theorem yfx {P:Program} {fn:Func} {R:Ending→World→Prop} {a:Act} {w:World} {s:Nat} {v:Value} (hres:fn.results=#[.tmp s]) (hd:a.defers=[]) (hv:a.tmps[s]?=some v) (h:R (.returned v) w):bodyPost P fn R .ret a w:=by
 refine bodyPost_ret (results_tmp hres _ _ _) hd ?_
 have e:a.tmps.getD s undef=v:=by rw [Array.getD_eq_getD_getElem?,hv];rfl
 rw [e];exact h
theorem yux {P:Program} {Q:Exit→Act→World→Prop} {a:Act} {w:World} {x y:Code} (e:x=y) (h:y.wp P Q a w):x.wp P Q a w:=by rw [e];exact h
noncomputable def cT8:Code:=.seq (.seq (.region 30 k30_R false) (.cond (.tmp 271) (.seq (.region 31 k31_R false) .ret) .skip)) (.seq (.region 32 k32_R false) .ret)
noncomputable def cT7:Code:=.seq (.seq (.region 27 k27_R false) (.cond (.tmp 248) (.region 28 k28_R false) (.region 29 k29_R false))) cT8
noncomputable def cT6:Code:=.seq (.seq (.region 24 k24_R false) (.cond (.tmp 229) (.region 25 k25_R false) (.region 26 k26_R false))) cT7
noncomputable def cT5:Code:=.seq (.seq (.region 22 k22_R false) (.cond (.tmp 211) (.region 23 k23_R false) .skip)) cT6
noncomputable def cB3:Code:=.block 4 (.loop (.seq (.seq (.region 19 k19_R false) (.cond (.tmp 198) .skip (.exit 4))) (.seq (.block 5 (.region 21 k21_R false)) (.region 20 k20_R false))))
noncomputable def cL3:Code:=.seq (.seq (.region 18 k18_R false) cB3) cT5
noncomputable def cB2:Code:=.block 2 (.loop (.seq (.seq (.region 15 k15_R false) (.cond (.tmp 181) .skip (.exit 2))) (.seq (.block 3 (.region 17 k17_R false)) (.region 16 k16_R false))))
noncomputable def cL2:Code:=.seq (.seq (.region 14 k14_R false) cB2) cL3
noncomputable def cB1:Code:=.block 0 (.loop (.seq (.seq (.region 11 k11_R false) (.cond (.tmp 155) .skip (.exit 0))) (.seq (.block 1 (.region 13 k13_R false)) (.region 12 k12_R false))))
noncomputable def cL1:Code:=.seq (.seq (.region 10 k10_R false) cB1) cL2
noncomputable def cT4:Code:=.seq (.region 9 k9_R false) cL1
noncomputable def cT3:Code:=.seq (.region 8 k8_R false) cT4
noncomputable def cT2:Code:=.seq (.seq (.region 5 k5_R false) (.cond (.tmp 82) (.region 6 k6_R false) (.region 7 k7_R false))) cT3
noncomputable def cT1:Code:=.seq (.region 4 ckr_R true) cT2
noncomputable def cT0:Code:=.seq (.region 3 k3_R false) cT1
def yjz (ok:Bool):Value:=.int .i64 (if ok=true then 0 else 1)
abbrev Rw1 (c:Cm) (a1:Option Addr) (S:World→Prop):Prop:=0 < c.cols.length→∃ g o,a1=some ⟨g,o,none⟩∧∀ W,S W→∀ i x,c.cols[i]?=some x→W.cell? ⟨g,o+i*2,none⟩=some (.string ⟨x.name.toArray⟩)∧W.cell? ⟨g,o+i*2+1,none⟩=some (.int .i64 x.ty)
abbrev Rw2 (c:Cm) (a2:Option Addr) (S:World→Prop):Prop:=0 < c.vals.length→∃ g o,a2=some ⟨g,o,none⟩∧∀ W,S W→∀ i x,c.vals[i]?=some x→W.cell? ⟨g,o+i*3,none⟩=some (.int .i64 x.k)∧W.cell? ⟨g,o+i*3+1,none⟩=some (.int .i64 x.n)∧W.cell? ⟨g,o+i*3+2,none⟩=some (.string ⟨x.s.toArray⟩)
abbrev Rw3 (c:Cm) (a3:Option Addr) (S:World→Prop):Prop:=0 < c.fields.length→∃ g o,a3=some ⟨g,o,none⟩∧∀ W,S W→∀ i x,c.fields[i]?=some x→W.cell? ⟨g,o+i,none⟩=some (.string ⟨x.toArray⟩)
def yrK (a:Act) (s:Nat):Nat:=match a.tmps[s]? with|some x=>(intOf x).toNat|none=>0
theorem ylk (d:Nat) (h:some d ∉ ckr_d) {n:Nat} {V:Nat→Value}:∀ p ∈ ckr_d.zip ((List.range n).map V),p.1≠some d:=by
 intro p hp e
 have:=(List.of_mem_zip (a:=p.1) (b:=p.2) hp).1
 rw [e] at this
 exact h this
section
variable {c:Cm} {b:Nat} {a1 a2 a3 a4 a5:Option Addr} {c1 c2 c3 c4 c5:Nat} {S:World→Prop} {R:Ending→World→Prop} {a:Act} {w:World} {ok:Bool}
theorem st8 (h:Fr a b c.kind ok) (hS:S w) (hR:∀ w',S w'→R (.returned (yjz ok)) w'):cT8.wp Tryz.prog (bodyPost Tryz.prog Tryz.f13 R) a w:=by
 unfold cT8
 refine wp_seq (wp_seq ?_)
 refine ysM (S:=S) h.t4 h.size hS ?_
 intro x w1 hS1 hd hz hn ho
 have g:Fr x b c.kind ok:=h.stay hd hz (ho 1 (by decide)) (ho 3 (by decide)) (ho 4 (by decide))
 refine wp_cond_split (t:=!ok) (ycn (hn 1 271 rfl)) (fun ht=>?_) (fun ht=>?_)
 ·refine wp_seq ?_
  refine ysN (S:=S) g.size hS1 ?_
  intro y w2 hS2 hd2 _ hn2 _
  refine wp_ret ?_
  refine yfx (v:=.int .i64 1) rfl (hd2.trans g.defers) (hn2 0 2 rfl) ?_
  have:=hR w2 hS2
  have e:ok=false:=by simpa using ht
  rw [e] at this
  exact this
 ·refine wp_skip ?_
  refine wp_seq ?_
  refine ysO (S:=S) g.size hS1 ?_
  intro y w2 hS2 hd2 _ hn2 _
  refine wp_ret ?_
  refine yfx (v:=.int .i64 0) rfl (hd2.trans g.defers) (hn2 0 2 rfl) ?_
  have:=hR w2 hS2
  have e:ok=true:=by simpa using ht
  rw [e] at this
  exact this
def f7 (c:Cm) (ok:Bool):Bool:=if (ya6 c.kind 11 13&&!c.all)=true then ok&&exR c.wh else (ok&&ybw c.wh)&&(ya6 c.kind 11 13 || !c.all)
theorem st7 (k:CkS c b a1 a2 a3 a4 a5 c1 c2 c3 c4 c5 S) (h:Fr a b c.kind ok) (hS:S w) (hR:∀ w',S w'→R (.returned (yjz (f7 c ok))) w'):cT7.wp Tryz.prog (bodyPost Tryz.prog Tryz.f13 R) a w:=by
 unfold cT7
 refine wp_seq (wp_seq ?_)
 refine ysJ (S:=S) h.t1 h.t3 k.cell (k.btw _ _ _) h.size hS ?_
 intro x w1 hS1 hd hz hn ho
 have g:Fr x b c.kind ok:=h.stay hd hz (ho 1 (by decide)) (ho 3 (by decide)) (ho 4 (by decide))
 refine wp_cond_split (t:=ya6 c.kind 11 13&&!c.all) (ycn (hn 6 248 rfl)) (fun ht=>?_) (fun ht=>?_)
 ·refine ysK (S:=S) g.t1 g.t4 k.cell k.ixw g.size hS1 ?_
  intro y w2 hS2 hd2 hz2 hn2 ho2
  exact st8 (g.next hd2 hz2 (ho2 1 (by decide)) (ho2 3 (by decide)) (hn2 6 4 rfl)) hS2 (by simpa only [f7,if_pos ht] using hR)
 ·refine ysL (S:=S) g.t1 g.t3 g.t4 k.cell k.now (k.btw _ _ _) g.size hS1 ?_
  intro y w2 hS2 hd2 hz2 hn2 ho2
  exact st8 (g.next hd2 hz2 (ho2 1 (by decide)) (ho2 3 (by decide)) (hn2 15 4 rfl)) hS2 (by simpa only [f7,if_neg (show ¬ (ya6 c.kind 11 13&&!c.all)=true by rw [ht];decide)] using hR)
def f6 (c:Cm) (ok:Bool):Bool:=f7 c (if c.kind=12 then ok&&exR c.expr else ok&&ybw c.expr)
theorem st6 (k:CkS c b a1 a2 a3 a4 a5 c1 c2 c3 c4 c5 S) (h:Fr a b c.kind ok) (hS:S w) (hR:∀ w',S w'→R (.returned (yjz (f6 c ok))) w'):cT6.wp Tryz.prog (bodyPost Tryz.prog Tryz.f13 R) a w:=by
 unfold cT6
 refine wp_seq (wp_seq ?_)
 refine ysG (S:=S) h.t3 h.size hS ?_
 intro x w1 hS1 hd hz hn ho
 have g:Fr x b c.kind ok:=h.stay hd hz (ho 1 (by decide)) (ho 3 (by decide)) (ho 4 (by decide))
 refine wp_cond_split (t:=decide (c.kind=12)) (ycn (hn 1 229 rfl)) (fun ht=>?_) (fun ht=>?_)
 ·refine ysH (S:=S) g.t1 g.t4 k.cell k.ixe g.size hS1 ?_
  intro y w2 hS2 hd2 hz2 hn2 ho2
  exact st7 k (g.next hd2 hz2 (ho2 1 (by decide)) (ho2 3 (by decide)) (hn2 6 4 rfl)) hS2 (by simpa only [f6,if_pos (of_decide_eq_true ht)] using hR)
 ·refine ysI (S:=S) g.t1 g.t4 k.cell k.noe g.size hS1 ?_
  intro y w2 hS2 hd2 hz2 hn2 ho2
  exact st7 k (g.next hd2 hz2 (ho2 1 (by decide)) (ho2 3 (by decide)) (hn2 6 4 rfl)) hS2 (by simpa only [f6,if_neg (of_decide_eq_false ht)] using hR)
def f5 (c:Cm) (ok:Bool):Bool:=f6 c (if c.kind=13 then (ok&&ya6 c.limit (-1) 999999999)&&(decide (c.order=[]) || yap c.order) else ok)
theorem st5 (k:CkS c b a1 a2 a3 a4 a5 c1 c2 c3 c4 c5 S) (hf:CmFit c) (h:Fr a b c.kind ok) (hS:S w) (hR:∀ w',S w'→R (.returned (yjz (f5 c ok))) w'):cT5.wp Tryz.prog (bodyPost Tryz.prog Tryz.f13 R) a w:=by
 unfold cT5
 refine wp_seq (wp_seq ?_)
 refine ysE (S:=S) h.t3 h.size hS ?_
 intro x w1 hS1 hd hz hn ho
 have g:Fr x b c.kind ok:=h.stay hd hz (ho 1 (by decide)) (ho 3 (by decide)) (ho 4 (by decide))
 refine wp_cond_split (t:=decide (c.kind=13)) (ycn (hn 1 211 rfl)) (fun ht=>?_) (fun ht=>?_)
 ·refine ysF (S:=S) g.t1 g.t4 k.cell (k.btw _ _ _) (k.nam _ hf.order) g.size hS1 ?_
  intro y w2 hS2 hd2 hz2 hn2 ho2
  exact st6 k (g.next hd2 hz2 (ho2 1 (by decide)) (ho2 3 (by decide)) (hn2 16 4 rfl)) hS2 (by simpa only [f5,if_pos (of_decide_eq_true ht)] using hR)
 ·refine wp_skip ?_
  exact st6 k g hS1 (by simpa only [f5,if_neg (of_decide_eq_false ht)] using hR)
def fL3 (c:Cm) (ok:Bool):Bool:=f5 c (ok&&c.fields.all yap)
theorem lp3 {Q:Exit→Act→World→Prop} (k:CkS c b a1 a2 a3 a4 a5 c1 c2 c3 c4 c5 S) (hf:CmFit c)
  (hrows:0 < c.fields.length→∃ g o,a3=some ⟨g,o,none⟩∧∀ W,S W→∀ i x,c.fields[i]?=some x→W.cell? ⟨g,o+i,none⟩=some (.string ⟨x.toArray⟩))
  (h:Fr a b c.kind ok) (h5:a.tmps[7]?=some (.int .i64 0)) (hS:S w)
  (hq:∀ a' w',Fr a' b c.kind (ok&&c.fields.all yap)→S w'→Q .normal a' w'):cB3.wp Tryz.prog Q a w:=by
 unfold cB3
 refine wp_block ?_
 refine wp_loop (fun a w=>∃ i:Nat,i≤c.fields.length∧Fr a b c.kind (ok&&(c.fields.take i).all yap)∧a.tmps[7]?=some (.int .i64 (i:Int))∧S w) (fun a _=>c.fields.length - yrK a 7) ⟨0,Nat.zero_le _,by simpa using h,h5,hS⟩ ?_
 rintro a w ⟨i,hi,h,h5,hS⟩
 refine wp_seq (wp_seq ?_)
 refine ysB (S:=S) h.t1 h5 k.cell h.size hS ?_
 intro y w1 hS1 hd hz hn ho
 have g1:=h.stay hd hz (ho 1 (by decide)) (ho 3 (by decide)) (ho 4 (by decide))
 have g5:y.tmps[7]?=some (.int .i64 (i:Int)):=(ho 7 (by decide)).trans h5
 refine wp_cond_split (t:=decide ((i:Int) < ((c.fields.length:Nat):Int))) (ycn (hn 4 198 rfl)) (fun ht=>?_) (fun ht=>?_)
 ·have hlt:i < c.fields.length:=by have:=of_decide_eq_true ht;omega
  refine wp_skip ?_
  refine wp_seq ?_
  refine wp_block ?_
  obtain ⟨x,hx⟩:∃ x,c.fields[i]?=some x:=⟨c.fields[i]'hlt,List.getElem?_eq_getElem hlt⟩
  obtain ⟨g,o,rfl,hrow⟩:=hrows (by omega)
  refine ysD (S:=S) (g:=g) (o:=o) (x:=x) g1.t1 g1.t4 g5 k.cell hlt (fun W hW=>hrow W hW i x hx) (k.nam _ (hf.fieldsN x (List.mem_of_getElem? hx))) g1.size hS1 ?_
  intro z w2 hS2 hd2 hz2 hn2 ho2
  have g2:Fr z b c.kind ((ok&&(c.fields.take i).all yap)&&yap x):=g1.next hd2 hz2 (ho2 1 (by decide)) (ho2 3 (by decide)) (hn2 9 4 rfl)
  have g6:z.tmps[7]?=some (.int .i64 (i:Int)):=(ho2 7 (by decide)).trans g5
  have hfew:=hf.fields
  refine ysC (S:=S) g6 (by omega) g2.size hS2 ?_
  intro v w3 hS3 hd3 hz3 hn3 ho3
  have g7:v.tmps[7]?=some (.int .i64 ((i+1:Nat):Int)):=hn3 2 7 rfl
  refine ⟨⟨i+1,by omega, ?_,g7,hS3⟩, ?_⟩
  ·have g3:=g2.stay hd3 hz3 (ho3 1 (by decide)) (ho3 3 (by decide)) (ho3 4 (by decide))
   have e:(ok&&(c.fields.take (i+1)).all yap)=((ok&&(c.fields.take i).all yap)&&yap x):=by
    rw [List.take_add_one,hx]
    simp [List.all_append,Bool.and_assoc]
   rw [e];exact g3
  ·simp only [yrK,g7,h5,intOf,Int.toNat_natCast];omega
 ·have hlt:¬ i < c.fields.length:=by have:=of_decide_eq_false ht;omega
  refine wp_exit ?_
  show Q .normal y w1
  refine hq y w1 ?_ hS1
  rw [List.take_of_length_le (by omega)] at g1
  exact g1
theorem sl3 (k:CkS c b a1 a2 a3 a4 a5 c1 c2 c3 c4 c5 S) (hf:CmFit c)
  (h3:Rw3 c a3 S)
  (h:Fr a b c.kind ok) (hS:S w) (hR:∀ w',S w'→R (.returned (yjz (fL3 c ok))) w'):cL3.wp Tryz.prog (bodyPost Tryz.prog Tryz.f13 R) a w:=by
 unfold cL3
 refine wp_seq (wp_seq ?_)
 refine ysA (S:=S) h.size hS ?_
 intro y w1 hS1 hd hz hn ho
 have g:=h.stay hd hz (ho 1 (by decide)) (ho 3 (by decide)) (ho 4 (by decide))
 refine lp3 k hf h3 g (hn 0 7 rfl) hS1 ?_
 intro a' w' g' hS'
 exact st5 k hf g' hS' (by simpa only [fL3] using hR)
def fL2 (c:Cm) (ok:Bool):Bool:=fL3 c (ok&&c.vals.all ycm)
theorem lp2 {Q:Exit→Act→World→Prop} (k:CkS c b a1 a2 a3 a4 a5 c1 c2 c3 c4 c5 S) (hf:CmFit c)
  (hrows:0 < c.vals.length→∃ g o,a2=some ⟨g,o,none⟩∧∀ W,S W→∀ i x,c.vals[i]?=some x→W.cell? ⟨g,o+i*3,none⟩=some (.int .i64 x.k)∧W.cell? ⟨g,o+i*3+1,none⟩=some (.int .i64 x.n)∧W.cell? ⟨g,o+i*3+2,none⟩=some (.string ⟨x.s.toArray⟩))
  (h:Fr a b c.kind ok) (h5:a.tmps[6]?=some (.int .i64 0)) (hS:S w)
  (hq:∀ a' w',Fr a' b c.kind (ok&&c.vals.all ycm)→S w'→Q .normal a' w'):cB2.wp Tryz.prog Q a w:=by
 unfold cB2
 refine wp_block ?_
 refine wp_loop (fun a w=>∃ i:Nat,i≤c.vals.length∧Fr a b c.kind (ok&&(c.vals.take i).all ycm)∧a.tmps[6]?=some (.int .i64 (i:Int))∧S w) (fun a _=>c.vals.length - yrK a 6) ⟨0,Nat.zero_le _,by simpa using h,h5,hS⟩ ?_
 rintro a w ⟨i,hi,h,h5,hS⟩
 refine wp_seq (wp_seq ?_)
 refine ysx (S:=S) h.t1 h5 k.cell h.size hS ?_
 intro y w1 hS1 hd hz hn ho
 have g1:=h.stay hd hz (ho 1 (by decide)) (ho 3 (by decide)) (ho 4 (by decide))
 have g5:y.tmps[6]?=some (.int .i64 (i:Int)):=(ho 6 (by decide)).trans h5
 refine wp_cond_split (t:=decide ((i:Int) < ((c.vals.length:Nat):Int))) (ycn (hn 4 181 rfl)) (fun ht=>?_) (fun ht=>?_)
 ·have hlt:i < c.vals.length:=by have:=of_decide_eq_true ht;omega
  refine wp_skip ?_
  refine wp_seq ?_
  refine wp_block ?_
  obtain ⟨x,hx⟩:∃ x,c.vals[i]?=some x:=⟨c.vals[i]'hlt,List.getElem?_eq_getElem hlt⟩
  obtain ⟨g,o,rfl,hrow⟩:=hrows (by omega)
  refine ysz (S:=S) (g:=g) (o:=o) (x:=x) g1.t1 g1.t4 g5 k.cell hlt (fun W hW=>(hrow W hW i x hx).1) (fun W hW=>(hrow W hW i x hx).2.1) (fun W hW=>(hrow W hW i x hx).2.2) (k.ckv _ (hf.valsN x (List.mem_of_getElem? hx))) g1.size hS1 ?_
  intro z w2 hS2 hd2 hz2 hn2 ho2
  have g2:Fr z b c.kind ((ok&&(c.vals.take i).all ycm)&&decide (((ycw x.k x.n x.s:Nat):Int)=0)):=g1.next hd2 hz2 (ho2 1 (by decide)) (ho2 3 (by decide)) (hn2 10 4 rfl)
  have g6:z.tmps[6]?=some (.int .i64 (i:Int)):=(ho2 6 (by decide)).trans g5
  have hfew:=hf.vals
  refine ysy (S:=S) g6 (by omega) g2.size hS2 ?_
  intro v w3 hS3 hd3 hz3 hn3 ho3
  have g7:v.tmps[6]?=some (.int .i64 ((i+1:Nat):Int)):=hn3 2 6 rfl
  refine ⟨⟨i+1,by omega, ?_,g7,hS3⟩, ?_⟩
  ·have g3:=g2.stay hd3 hz3 (ho3 1 (by decide)) (ho3 3 (by decide)) (ho3 4 (by decide))
   have e:(ok&&(c.vals.take (i+1)).all ycm)=((ok&&(c.vals.take i).all ycm)&&decide (((ycw x.k x.n x.s:Nat):Int)=0)):=by
    rw [List.take_add_one,hx]
    simp [List.all_append,Bool.and_assoc,ycm]
   rw [e];exact g3
  ·simp only [yrK,g7,h5,intOf,Int.toNat_natCast];omega
 ·have hlt:¬ i < c.vals.length:=by have:=of_decide_eq_false ht;omega
  refine wp_exit ?_
  show Q .normal y w1
  refine hq y w1 ?_ hS1
  rw [List.take_of_length_le (by omega)] at g1
  exact g1
theorem sl2 (k:CkS c b a1 a2 a3 a4 a5 c1 c2 c3 c4 c5 S) (hf:CmFit c)
  (h2:Rw2 c a2 S)
  (h3:Rw3 c a3 S)
  (h:Fr a b c.kind ok) (hS:S w) (hR:∀ w',S w'→R (.returned (yjz (fL2 c ok))) w'):cL2.wp Tryz.prog (bodyPost Tryz.prog Tryz.f13 R) a w:=by
 unfold cL2
 refine wp_seq (wp_seq ?_)
 refine ysw (S:=S) h.size hS ?_
 intro y w1 hS1 hd hz hn ho
 have g:=h.stay hd hz (ho 1 (by decide)) (ho 3 (by decide)) (ho 4 (by decide))
 refine lp2 k hf h2 g (hn 0 6 rfl) hS1 ?_
 intro a' w' g' hS'
 exact sl3 k hf h3 g' hS' (by simpa only [fL2] using hR)
def fL1 (c:Cm) (ok:Bool):Bool:=fL2 c (ok&&c.cols.all (fun x=>yap x.name&&ya6 x.ty 1 3))
theorem lp1 {Q:Exit→Act→World→Prop} (k:CkS c b a1 a2 a3 a4 a5 c1 c2 c3 c4 c5 S) (hf:CmFit c)
  (hrows:0 < c.cols.length→∃ g o,a1=some ⟨g,o,none⟩∧∀ W,S W→∀ i x,c.cols[i]?=some x→W.cell? ⟨g,o+i*2,none⟩=some (.string ⟨x.name.toArray⟩)∧W.cell? ⟨g,o+i*2+1,none⟩=some (.int .i64 x.ty))
  (h:Fr a b c.kind ok) (h5:a.tmps[5]?=some (.int .i64 0)) (hS:S w)
  (hq:∀ a' w',Fr a' b c.kind (ok&&c.cols.all (fun x=>yap x.name&&ya6 x.ty 1 3))→S w'→Q .normal a' w'):cB1.wp Tryz.prog Q a w:=by
 unfold cB1
 refine wp_block ?_
 refine wp_loop (fun a w=>∃ i:Nat,i≤c.cols.length∧Fr a b c.kind (ok&&(c.cols.take i).all (fun x=>yap x.name&&ya6 x.ty 1 3))∧a.tmps[5]?=some (.int .i64 (i:Int))∧S w) (fun a _=>c.cols.length - yrK a 5) ⟨0,Nat.zero_le _,by simpa using h,h5,hS⟩ ?_
 rintro a w ⟨i,hi,h,h5,hS⟩
 refine wp_seq (wp_seq ?_)
 refine yst (S:=S) h.t1 h5 k.cell h.size hS ?_
 intro y w1 hS1 hd hz hn ho
 have g1:=h.stay hd hz (ho 1 (by decide)) (ho 3 (by decide)) (ho 4 (by decide))
 have g5:y.tmps[5]?=some (.int .i64 (i:Int)):=(ho 5 (by decide)).trans h5
 refine wp_cond_split (t:=decide ((i:Int) < ((c.cols.length:Nat):Int))) (ycn (hn 4 155 rfl)) (fun ht=>?_) (fun ht=>?_)
 ·have hlt:i < c.cols.length:=by have:=of_decide_eq_true ht;omega
  refine wp_skip ?_
  refine wp_seq ?_
  refine wp_block ?_
  obtain ⟨x,hx⟩:∃ x,c.cols[i]?=some x:=⟨c.cols[i]'hlt,List.getElem?_eq_getElem hlt⟩
  obtain ⟨g,o,rfl,hrow⟩:=hrows (by omega)
  refine ysv (S:=S) (g:=g) (o:=o) (x:=x) g1.t1 g1.t4 g5 k.cell hlt (fun W hW=>by have:=hrow W hW i x hx;exact this.1) (fun W hW=>(hrow W hW i x hx).2) (k.nam _ (hf.colsN x (List.mem_of_getElem? hx))) (k.btw _ _ _) g1.size hS1 ?_
  intro z w2 hS2 hd2 hz2 hn2 ho2
  have g2:Fr z b c.kind (((ok&&(c.cols.take i).all (fun x=>yap x.name&&ya6 x.ty 1 3))&&yap x.name)&&ya6 x.ty 1 3):=g1.next hd2 hz2 (ho2 1 (by decide)) (ho2 3 (by decide)) (hn2 19 4 rfl)
  have g6:z.tmps[5]?=some (.int .i64 (i:Int)):=(ho2 5 (by decide)).trans g5
  have hfew:=hf.cols
  refine ysu (S:=S) g6 (by omega) g2.size hS2 ?_
  intro v w3 hS3 hd3 hz3 hn3 ho3
  have g7:v.tmps[5]?=some (.int .i64 ((i+1:Nat):Int)):=hn3 2 5 rfl
  refine ⟨⟨i+1,by omega, ?_,g7,hS3⟩, ?_⟩
  ·have g3:=g2.stay hd3 hz3 (ho3 1 (by decide)) (ho3 3 (by decide)) (ho3 4 (by decide))
   have e:(ok&&(c.cols.take (i+1)).all (fun x=>yap x.name&&ya6 x.ty 1 3))=(((ok&&(c.cols.take i).all (fun x=>yap x.name&&ya6 x.ty 1 3))&&yap x.name)&&ya6 x.ty 1 3):=by
    rw [List.take_add_one,hx]
    simp [List.all_append,Bool.and_assoc]
   rw [e];exact g3
  ·simp only [yrK,g7,h5,intOf,Int.toNat_natCast];omega
 ·have hlt:¬ i < c.cols.length:=by have:=of_decide_eq_false ht;omega
  refine wp_exit ?_
  show Q .normal y w1
  refine hq y w1 ?_ hS1
  rw [List.take_of_length_le (by omega)] at g1
  exact g1
theorem sl1 (k:CkS c b a1 a2 a3 a4 a5 c1 c2 c3 c4 c5 S) (hf:CmFit c)
  (h1:Rw1 c a1 S)
  (h2:Rw2 c a2 S)
  (h3:Rw3 c a3 S)
  (h:Fr a b c.kind ok) (hS:S w) (hR:∀ w',S w'→R (.returned (yjz (fL1 c ok))) w'):cL1.wp Tryz.prog (bodyPost Tryz.prog Tryz.f13 R) a w:=by
 unfold cL1
 refine wp_seq (wp_seq ?_)
 refine yss (S:=S) h.size hS ?_
 intro y w1 hS1 hd hz hn ho
 have g:=h.stay hd hz (ho 1 (by decide)) (ho 3 (by decide)) (ho 4 (by decide))
 refine lp1 k hf h1 g (hn 0 5 rfl) hS1 ?_
 intro a' w' g' hS'
 exact sl2 k hf h2 h3 g' hS' (by simpa only [fL1] using hR)
def f4 (c:Cm) (ok:Bool):Bool:=fL1 c (((ok&&(decide (c.kind=1) == decide (0 < ((c.cols.length:Nat):Int))))&&(decide (c.kind=10) == decide (0 < ((c.vals.length:Nat):Int))))&&(decide (c.kind=13) || ((decide (((c.fields.length:Nat):Int)=0)&&decide (c.order=[]))&&decide (c.limit=0))))
theorem st4 (k:CkS c b a1 a2 a3 a4 a5 c1 c2 c3 c4 c5 S) (hf:CmFit c)
  (h1:Rw1 c a1 S)
  (h2:Rw2 c a2 S)
  (h3:Rw3 c a3 S)
  (h:Fr a b c.kind ok) (hS:S w) (hR:∀ w',S w'→R (.returned (yjz (f4 c ok))) w'):cT4.wp Tryz.prog (bodyPost Tryz.prog Tryz.f13 R) a w:=by
 unfold cT4
 refine wp_seq ?_
 refine yuc (S:=S) h.t1 h.t3 h.t4 k.cell h.size hS ?_
 intro y w1 hS1 hd hz hn ho
 exact sl1 k hf h1 h2 h3 (h.next hd hz (ho 1 (by decide)) (ho 3 (by decide)) (hn 39 4 rfl)) hS1 (by simpa only [f4] using hR)
def f3 (c:Cm) (ok:Bool):Bool:=f4 c ((ok&&decide (((ycw c.val.k c.val.n c.val.s:Nat):Int)=0))&&(decide (c.kind=3) || ybU c.val))
theorem st3 (k:CkS c b a1 a2 a3 a4 a5 c1 c2 c3 c4 c5 S) (hf:CmFit c)
  (h1:Rw1 c a1 S)
  (h2:Rw2 c a2 S)
  (h3:Rw3 c a3 S)
  (h:Fr a b c.kind ok) (hS:S w) (hR:∀ w',S w'→R (.returned (yjz (f3 c ok))) w'):cT3.wp Tryz.prog (bodyPost Tryz.prog Tryz.f13 R) a w:=by
 unfold cT3
 refine wp_seq ?_
 refine yub (S:=S) h.t1 h.t3 h.t4 k.cell (k.ckv _ hf.val) (k.smv _) h.size hS ?_
 intro y w1 hS1 hd hz hn ho
 exact st4 k hf h1 h2 h3 (h.next hd hz (ho 1 (by decide)) (ho 3 (by decide)) (hn 17 4 rfl)) hS1 (by simpa only [f3] using hR)
def f2 (c:Cm) (ok:Bool):Bool:=f3 c (if (decide (c.kind=3) || decide (c.kind=6))=true then ok&&ya6 c.ty 1 3 else ok&&decide (c.ty=0))
theorem st2 (k:CkS c b a1 a2 a3 a4 a5 c1 c2 c3 c4 c5 S) (hf:CmFit c)
  (h1:Rw1 c a1 S)
  (h2:Rw2 c a2 S)
  (h3:Rw3 c a3 S)
  (h:Fr a b c.kind ok) (hS:S w) (hR:∀ w',S w'→R (.returned (yjz (f2 c ok))) w'):cT2.wp Tryz.prog (bodyPost Tryz.prog Tryz.f13 R) a w:=by
 unfold cT2
 refine wp_seq (wp_seq ?_)
 refine yt8 (S:=S) h.t3 h.size hS ?_
 intro x w1 hS1 hd hz hn ho
 have g:Fr x b c.kind ok:=h.stay hd hz (ho 1 (by decide)) (ho 3 (by decide)) (ho 4 (by decide))
 refine wp_cond_split (t:=decide (c.kind=3) || decide (c.kind=6)) (ycn (hn 5 82 rfl)) (fun ht=>?_) (fun ht=>?_)
 ·refine yt9 (S:=S) g.t1 g.t4 k.cell (k.btw _ _ _) g.size hS1 ?_
  intro y w2 hS2 hd2 hz2 hn2 ho2
  exact st3 k hf h1 h2 h3 (g.next hd2 hz2 (ho2 1 (by decide)) (ho2 3 (by decide)) (hn2 6 4 rfl)) hS2 (by simpa only [f2,if_pos ht] using hR)
 ·refine yua (S:=S) g.t1 g.t4 k.cell g.size hS1 ?_
  intro y w2 hS2 hd2 hz2 hn2 ho2
  exact st3 k hf h1 h2 h3 (g.next hd2 hz2 (ho2 1 (by decide)) (ho2 3 (by decide)) (hn2 6 4 rfl)) hS2 (by simpa only [f2,if_neg (show ¬ (decide (c.kind=3) || decide (c.kind=6))=true by rw [ht];decide)] using hR)
def k1B (c:Cm):Bool:=(((ya6 c.kind 1 16&&yaB c.name (decide (c.kind≤13)))&&yaB c.other ((decide (c.kind=5) || decide (c.kind=7)) || decide (c.kind=8)))&&yaB c.column ((ya6 c.kind 3 6 || decide (c.kind=8)) || decide (c.kind=12)))
theorem st1 (k:CkS c b a1 a2 a3 a4 a5 c1 c2 c3 c4 c5 S) (hf:CmFit c)
  (h1:Rw1 c a1 S)
  (h2:Rw2 c a2 S)
  (h3:Rw3 c a3 S)
  (hz:a.tmps.size=272) (hd:a.defers=[]) (t1:a.tmps[1]?=some (.pointer (some ⟨b,0,none⟩))) (t3:a.tmps[3]?=some (.int .i64 c.kind)) (hS:S w) (hR:∀ w',S w'→R (.returned (yjz (f2 c (k1B c)))) w'):cT1.wp Tryz.prog (bodyPost Tryz.prog Tryz.f13 R) a w:=by
 unfold cT1
 refine wp_seq ?_
 refine yrP (S:=S) t1 t3 k.cell (k.btw _ _ _) (k.nmi _ _ hf.name) (k.nmi _ _ hf.other) (k.btw _ _ _) (k.nmi _ _ hf.column) hz (k.drew _ hS) ?_
 intro w1 hS1
 refine st2 k hf h1 h2 h3 (ok:=k1B c) ⟨?_,hd, ?_, ?_, ?_⟩ hS1 hR
 ·rw [List.size_toArray,yiO];simpa using hz
 ·rw [List.getElem?_toArray,ye7 _ _ 1 (ylk 1 (by decide))];simpa using t1
 ·rw [List.getElem?_toArray,ye7 _ _ 3 (ylk 3 (by decide))];simpa using t3
 ·rw [List.getElem?_toArray,yja (n:=40) yg1 rfl 39 4 rfl (by simp [hz])];rfl
theorem st0 (k:CkS c b a1 a2 a3 a4 a5 c1 c2 c3 c4 c5 S) (hf:CmFit c)
  (h1:Rw1 c a1 S)
  (h2:Rw2 c a2 S)
  (h3:Rw3 c a3 S)
  (hz:a.tmps.size=272) (hd:a.defers=[]) (t1:a.tmps[1]?=some (.pointer (some ⟨b,0,none⟩))) (hS:S w) (hR:∀ w',S w'→R (.returned (yjz (f2 c (k1B c)))) w'):cT0.wp Tryz.prog (bodyPost Tryz.prog Tryz.f13 R) a w:=by
 unfold cT0
 refine wp_seq ?_
 refine yt7 (S:=S) t1 k.cell hz hS ?_
 intro y w1 hS1 hd1 hz1 hn ho
 exact st1 k hf h1 h2 h3 hz1 (hd1.trans hd) ((ho 1 (by decide)).trans t1) (hn 2 3 rfl) hS1 hR
end
theorem yn1 (P1 P2 P3 P4:Prop) [Decidable P1] [Decidable P2] [Decidable P3] [Decidable P4] (K T1 T2 V1 V2 L1 L2 L3 A1 A2 A3 S1 S2 X1 X2 X3 X4 Y:Bool) :
  (if P4 then (if P3 then (if P2 then ((((((((((if P1 then K&&T1 else K&&T2)&&V1)&&V2)&&L1)&&L2)&&L3)&&A1)&&A2)&&A3)&&S1)&&S2 else (((((((((if P1 then K&&T1 else K&&T2)&&V1)&&V2)&&L1)&&L2)&&L3)&&A1)&&A2)&&A3))&&X1 else (if P2 then ((((((((((if P1 then K&&T1 else K&&T2)&&V1)&&V2)&&L1)&&L2)&&L3)&&A1)&&A2)&&A3)&&S1)&&S2 else (((((((((if P1 then K&&T1 else K&&T2)&&V1)&&V2)&&L1)&&L2)&&L3)&&A1)&&A2)&&A3))&&X3)&&X2 else ((if P3 then (if P2 then ((((((((((if P1 then K&&T1 else K&&T2)&&V1)&&V2)&&L1)&&L2)&&L3)&&A1)&&A2)&&A3)&&S1)&&S2 else (((((((((if P1 then K&&T1 else K&&T2)&&V1)&&V2)&&L1)&&L2)&&L3)&&A1)&&A2)&&A3))&&X1 else (if P2 then ((((((((((if P1 then K&&T1 else K&&T2)&&V1)&&V2)&&L1)&&L2)&&L3)&&A1)&&A2)&&A3)&&S1)&&S2 else (((((((((if P1 then K&&T1 else K&&T2)&&V1)&&V2)&&L1)&&L2)&&L3)&&A1)&&A2)&&A3))&&X3)&&X4)&&Y)=(K&&(if P1 then T1 else T2)&&(V1&&V2)&&(L1&&L2&&L3)&&A1&&A2&&A3&&(if P2 then S1&&S2 else true)&&(if P3 then X1 else X3)&&(if P4 then X2 else X4&&Y)):=by
 by_cases g1:P1 <;> by_cases g2:P2 <;> by_cases g3:P3 <;> by_cases g4:P4 <;> simp [g1,g2,g3,g4,Bool.and_assoc]
theorem yqv (c:Cm):f2 c (k1B c)=yeJ c:=by
 have e1:decide (0 < ((c.cols.length:Nat):Int))=decide (0 < c.cols.length):=by rw [decide_eq_decide];omega
 have e2:decide (0 < ((c.vals.length:Nat):Int))=decide (0 < c.vals.length):=by rw [decide_eq_decide];omega
 have e3:decide (((c.fields.length:Nat):Int)=0)=decide (c.fields.length=0):=by rw [decide_eq_decide];omega
 have e4:∀ v:Vl,decide (((ycw v.k v.n v.s:Nat):Int)=0)=ycm v:=by intro v;unfold ycm;rw [decide_eq_decide];omega
 have e5:(decide (c.kind=3) || decide (c.kind=6))=decide (c.kind=3∨c.kind=6):=by rw [Bool.decide_or]
 unfold f2 f3 f4 fL1 fL2 fL3 f5 f6 f7 k1B yeJ
 rw [e1,e2,e3,e4,e5]
 simp only [decide_eq_true_eq]
 exact yn1 _ _ _ _ _ _ _ _ _ _ _ _ _ _ _ _ _ _ _ _ _ _
noncomputable def pln_R:Array Oper:=((Tryz.f85.body).bind (yaC 1)).getD #[]
def yuj (k:Int) (v:Vl) (nm:List UInt8) (ao:Option Addr) (n ca:Nat) (b:Nat) (j:Nat):Value:=([.pointer (some ⟨b,5,none⟩),.slice ao n ca,.int .i64 ((n:Nat):Int),.pointer (some ⟨b,0,none⟩),.int .i64 k,.int .i64 (yb0 k),.bool (decide (((n:Nat):Int)=(yb0 k))),.bool (decide (((n:Nat):Int)=(yb0 k))),gw ((decide (((n:Nat):Int)=(yb0 k))) == true) (.pointer (some ⟨b,0,none⟩)),gw ((decide (((n:Nat):Int)=(yb0 k))) == true) (.int .i64 k),gw ((decide (((n:Nat):Int)=(yb0 k))) == true) (.bool (decide (k=2))),gw ((decide (((n:Nat):Int)=(yb0 k))) == true) (.bool (decide (k=2))),gw (((decide (((n:Nat):Int)=(yb0 k))) == true)&&((decide (k=2)) == false)) (.pointer (some ⟨b,4,none⟩)),gw (((decide (((n:Nat):Int)=(yb0 k))) == true)&&((decide (k=2)) == false)) (.string ⟨nm.toArray⟩),gw (((decide (((n:Nat):Int)=(yb0 k))) == true)&&((decide (k=2)) == false)) (.bool (decide (nm=[]))),gw ((decide (((n:Nat):Int)=(yb0 k))) == true) (.bool ((decide (k=2)) || (decide (nm=[])))),.bool ((decide (((n:Nat):Int)=(yb0 k)))&&((decide (k=2)) || (decide (nm=[])))),.bool ((decide (((n:Nat):Int)=(yb0 k)))&&((decide (k=2)) || (decide (nm=[])))),gw (((decide (((n:Nat):Int)=(yb0 k)))&&((decide (k=2)) || (decide (nm=[])))) == true) (.pointer (some ⟨b,0,none⟩)),gw (((decide (((n:Nat):Int)=(yb0 k)))&&((decide (k=2)) || (decide (nm=[])))) == true) (.int .i64 k),gw (((decide (((n:Nat):Int)=(yb0 k)))&&((decide (k=2)) || (decide (nm=[])))) == true) (.bool (decide (k=1))),gw (((decide (((n:Nat):Int)=(yb0 k)))&&((decide (k=2)) || (decide (nm=[])))) == true) (.bool (decide (k=1))),gw ((((decide (((n:Nat):Int)=(yb0 k)))&&((decide (k=2)) || (decide (nm=[])))) == true)&&((decide (k=1)) == false)) (.pointer (some ⟨b,1,none⟩)),gw ((((decide (((n:Nat):Int)=(yb0 k)))&&((decide (k=2)) || (decide (nm=[])))) == true)&&((decide (k=1)) == false)) (.agg #[.int .i64 v.k,.int .i64 v.n,.string ⟨v.s.toArray⟩]),gw ((((decide (((n:Nat):Int)=(yb0 k)))&&((decide (k=2)) || (decide (nm=[])))) == true)&&((decide (k=1)) == false)) (.agg #[.int .i64 0,.int .i64 0,.string ⟨#[]⟩]),gw ((((decide (((n:Nat):Int)=(yb0 k)))&&((decide (k=2)) || (decide (nm=[])))) == true)&&((decide (k=1)) == false)) (.bool (ybU v)),gw (((decide (((n:Nat):Int)=(yb0 k)))&&((decide (k=2)) || (decide (nm=[])))) == true) (.bool ((decide (k=1)) || (ybU v))),.bool (((decide (((n:Nat):Int)=(yb0 k)))&&((decide (k=2)) || (decide (nm=[]))))&&((decide (k=1)) || (ybU v))),.bool (((decide (((n:Nat):Int)=(yb0 k)))&&((decide (k=2)) || (decide (nm=[]))))&&((decide (k=1)) || (ybU v)))]:List Value).getD j undef
def pln_d:List (Option Tmp):=[some 3,some 4,some 5,some 6,some 7,some 8,some 9,some 10,some 11,some 12,some 13,some 14,some 15,some 16,some 17,some 18,some 19,some 20,some 21,some 22,some 23,some 24,some 25,some 26,some 27,some 28,some 29,some 30,some 2]
theorem yhv:pln_d.Nodup:=by unfold pln_d;decide
theorem ytb {k:Int} {v:Vl} {nm:List UInt8} {ao:Option Addr} {n ca:Nat} {b:Nat} {S:World→Prop} {a0:Act} {Q:Exit→Act→World→Prop} {w:World} (h1:a0.tmps[1]?=some (.pointer (some ⟨b,0,none⟩))) (hcell:∀ W,S W→∀ o x,([.int .i64 k,.int .i64 v.k,.int .i64 v.n,.string ⟨v.s.toArray⟩,.string ⟨nm.toArray⟩,.slice ao n ca]:List Value)[o]?=some x→W.cell? ⟨b,o,none⟩=some x) (q8:∀ W,S W→Calls Tryz.prog 130 #[.int .i64 k] W fun e w'=>e=.returned (.int .i64 (yb0 k))∧S w') (q28:∀ W,S W→Calls Tryz.prog 25 #[.agg #[.int .i64 v.k,.int .i64 v.n,.string ⟨v.s.toArray⟩],.agg #[.int .i64 0,.int .i64 0,.string ⟨#[]⟩]] W fun e w'=>e=.returned (.bool (ybU v))∧S w') (ha:a0.tmps.size=31) (hS:S w.drew)
  (hq:∀ w',S w'→Q .normal { tmps:=(ygh a0.tmps.toList (pln_d.zip ((List.range 29).map (yuj k v nm ao n ca b)))).toArray,defers:=a0.defers } w'):(Code.region 1 pln_R true).wp Tryz.prog Q a0 w:=by
 have hz:pln_R.size=29:=by kernel_rfl
 refine ynG (m:=31) (by kernel_rfl) hz (by kernel_rfl) (by kernel_rfl) yhv ha ?_ hS hq
 refine us ?_ (yc5 hz (by decide) (by kernel_rfl) fun _ _ s _=>yaV (x:=.tmp 30) (by kernel_rfl) (s.u 27 30 (by kernel_rfl)))
 refine us ?_ (yc5 hz (by decide) (by kernel_rfl) fun _ _ s _=>yaE (G:=true) (by kernel_rfl) (s.u 17 20 (by kernel_rfl)) (s.u 26 29 (by kernel_rfl)) rfl rfl)
 refine us ?_ (ya5 true 17 20 true hz (by decide) (by kernel_rfl) rfl rfl fun hG _ _ s _=>ybI (by kernel_rfl) (s.g 21 24 (by kernel_rfl) hG rfl) (s.u 25 28 (by kernel_rfl)) rfl hG)
 refine us ?_ (yd8 _ 21 24 false hz (by decide) (by kernel_rfl) rfl rfl (fun hG _ _ s=>ycT (ts:=#[24,24]) (x:=.tmp 26) (y:=.tmp 27) (f:=25) yuy (by kernel_rfl) rfl (s.g 23 26 (by kernel_rfl) hG rfl) (s.g 24 27 (by kernel_rfl) hG rfl)) q28)
 refine us ?_ (ya5 _ 21 24 false hz (by decide) (by kernel_rfl) rfl rfl fun _ _ _ _ _=>yeE (by kernel_rfl))
 refine us ?_ (ya5 _ 21 24 false hz (by decide) (by kernel_rfl) rfl rfl fun hG _ W s hS=>yas (x:=.tmp 25) (t:=24) (by kernel_rfl) (s.g 22 25 (by kernel_rfl) hG rfl) (yrL W _ 1 _ _ _ (hcell W hS 1 _ rfl) (hcell W hS 2 _ rfl) (hcell W hS 3 _ rfl)))
 refine us ?_ (ya5 _ 21 24 false hz (by decide) (by kernel_rfl) rfl rfl fun _ _ W s _=>yal (x:=.tmp 1) (t:=29) (f:=1) (by kernel_rfl) (s.b 1 (by kernel_rfl) h1) (fx1 W _))
 refine us ?_ (ya5 true 17 20 true hz (by decide) (by kernel_rfl) rfl rfl fun hG _ _ s _=>yai (x:=.tmp 23) (by kernel_rfl) (s.g 20 23 (by kernel_rfl) hG rfl))
 refine us ?_ (ya5 true 17 20 true hz (by decide) (by kernel_rfl) rfl rfl fun hG _ W s _=>yaR (u:=3) (x:=.tmp 22) (y:=.const (.int .i64 1)) (by kernel_rfl) (s.g 19 22 (by kernel_rfl) hG rfl) (rfl) (ye0 W _ _ _ _))
 refine us ?_ (ya5 true 17 20 true hz (by decide) (by kernel_rfl) rfl rfl fun hG _ W s hS=>yas (x:=.tmp 21) (t:=3) (by kernel_rfl) (s.g 18 21 (by kernel_rfl) hG rfl) (ld3 W _ 0 _ (hcell W hS 0 _ rfl)))
 refine us ?_ (ya5 true 17 20 true hz (by decide) (by kernel_rfl) rfl rfl fun _ _ W s _=>yal (x:=.tmp 1) (t:=29) (f:=0) (by kernel_rfl) (s.b 1 (by kernel_rfl) h1) (fx0 W _))
 refine us ?_ (yc5 hz (by decide) (by kernel_rfl) fun _ _ s _=>yai (x:=.tmp 19) (by kernel_rfl) (s.u 16 19 (by kernel_rfl)))
 refine us ?_ (yc5 hz (by decide) (by kernel_rfl) fun _ _ s _=>yaE (G:=true) (by kernel_rfl) (s.u 7 10 (by kernel_rfl)) (s.u 15 18 (by kernel_rfl)) rfl rfl)
 refine us ?_ (ya5 true 7 10 true hz (by decide) (by kernel_rfl) rfl rfl fun hG _ _ s _=>ybI (by kernel_rfl) (s.g 11 14 (by kernel_rfl) hG rfl) (s.u 14 17 (by kernel_rfl)) rfl hG)
 refine us ?_ (ya5 _ 11 14 false hz (by decide) (by kernel_rfl) rfl rfl fun hG _ W s _=>yaR (u:=9) (x:=.tmp 16) (y:=.const (.string ⟨#[]⟩)) (by kernel_rfl) (s.g 13 16 (by kernel_rfl) hG rfl) (rfl) (eq9 W _ _ _))
 refine us ?_ (ya5 _ 11 14 false hz (by decide) (by kernel_rfl) rfl rfl fun hG _ W s hS=>yas (x:=.tmp 15) (t:=9) (by kernel_rfl) (s.g 12 15 (by kernel_rfl) hG rfl) (ld9 W _ 4 _ (hcell W hS 4 _ rfl)))
 refine us ?_ (ya5 _ 11 14 false hz (by decide) (by kernel_rfl) rfl rfl fun _ _ W s _=>yal (x:=.tmp 1) (t:=29) (f:=2) (by kernel_rfl) (s.b 1 (by kernel_rfl) h1) (fx2 W _))
 refine us ?_ (ya5 true 7 10 true hz (by decide) (by kernel_rfl) rfl rfl fun hG _ _ s _=>yai (x:=.tmp 13) (by kernel_rfl) (s.g 10 13 (by kernel_rfl) hG rfl))
 refine us ?_ (ya5 true 7 10 true hz (by decide) (by kernel_rfl) rfl rfl fun hG _ W s _=>yaR (u:=3) (x:=.tmp 12) (y:=.const (.int .i64 2)) (by kernel_rfl) (s.g 9 12 (by kernel_rfl) hG rfl) (rfl) (ye0 W _ _ _ _))
 refine us ?_ (ya5 true 7 10 true hz (by decide) (by kernel_rfl) rfl rfl fun hG _ W s hS=>yas (x:=.tmp 11) (t:=3) (by kernel_rfl) (s.g 8 11 (by kernel_rfl) hG rfl) (ld3 W _ 0 _ (hcell W hS 0 _ rfl)))
 refine us ?_ (ya5 true 7 10 true hz (by decide) (by kernel_rfl) rfl rfl fun _ _ W s _=>yal (x:=.tmp 1) (t:=29) (f:=0) (by kernel_rfl) (s.b 1 (by kernel_rfl) h1) (fx0 W _))
 refine us ?_ (yc5 hz (by decide) (by kernel_rfl) fun _ _ s _=>yai (x:=.tmp 9) (by kernel_rfl) (s.u 6 9 (by kernel_rfl)))
 refine us ?_ (yc5 hz (by decide) (by kernel_rfl) fun _ W s _=>yaR (u:=3) (x:=.tmp 5) (y:=.tmp 8) (by kernel_rfl) (s.u 2 5 (by kernel_rfl)) (s.u 5 8 (by kernel_rfl)) (ye0 W _ _ _ _))
 refine us ?_ (yuH hz (by decide) (by kernel_rfl) (fun _ _ s=>ybm (ts:=#[3]) (x:=.tmp 7) (f:=130) ytw (by kernel_rfl) rfl (s.u 4 7 (by kernel_rfl))) q8)
 refine us ?_ (yc5 hz (by decide) (by kernel_rfl) fun _ W s hS=>yas (x:=.tmp 6) (t:=3) (by kernel_rfl) (s.u 3 6 (by kernel_rfl)) (ld3 W _ 0 _ (hcell W hS 0 _ rfl)))
 refine us ?_ (yc5 hz (by decide) (by kernel_rfl) fun _ W s _=>yal (x:=.tmp 1) (t:=29) (f:=0) (by kernel_rfl) (s.b 1 (by kernel_rfl) h1) (fx0 W _))
 refine us ?_ (yc5 hz (by decide) (by kernel_rfl) fun _ W s _=>ydh (ts:=#[27]) (x:=.tmp 4) (by kernel_rfl) (fun ty=>yuf W ao n ca ty) (s.u 1 4 (by kernel_rfl)))
 refine us ?_ (yc5 hz (by decide) (by kernel_rfl) fun _ W s hS=>yas (x:=.tmp 3) (t:=27) (by kernel_rfl) (s.u 0 3 (by kernel_rfl)) (yu9 W _ 5 _ (hcell W hS 5 _ rfl)))
 refine us ?_ (yc5 hz (by decide) (by kernel_rfl) fun _ W s _=>yal (x:=.tmp 1) (t:=29) (f:=3) (by kernel_rfl) (s.b 1 (by kernel_rfl) h1) (fx3 W _))
 exact fun j hj=>absurd hj (Nat.not_lt_zero j)
abbrev Sx:=Nat×Bool
def txS (T:List Tk) (s:Sx):List UInt8:=if s.2=true then [] else tx T s.1
def ybG (T:List Tk) (w:List UInt8) (s:Sx):Bool×Sx:=if s.2=false∧tx T s.1=w then (true,(s.1+1,false)) else (false,s)
def yc4 (T:List Tk) (w:List UInt8) (s:Sx):Unit×Sx:=if (ybG T w s).1=true then ((),(ybG T w s).2) else ((),(s.1,true))
def yd5 (T:List Tk) (s:Sx):List UInt8×Sx:=if yap (txS T s)=true then (txS T s,(s.1+1,s.2)) else ([],(s.1,true))
def ybp (T:List Tk) (s:Sx):Nat×Sx:=if yde isD (txS T s)=true then (yfO (txS T s),(s.1+1,s.2)) else (0,(s.1,true))
def ypS (T:List Tk) (s:Sx):Vl×Sx:=(⟨1,-((ybp T (if txS T s=[48] then (s.1,true) else s)).1:Nat),[]⟩,(ybp T (if txS T s=[48] then (s.1,true) else s)).2)
def ydb (T:List Tk) (s:Sx):Vl×Sx :=
 if yfn (txS T s)=false then (vl0,(s.1,true))
 else if txS T s=yb9∨txS T s=ybH then (⟨3,if txS T s=yb9 then 1 else 0,[]⟩,(s.1+1,s.2))
 else if txS T s=w_null then (vl0,(s.1+1,s.2))
 else if txS T s=[45] then ypS T (s.1+1,s.2)
 else if yde (fun c=>decide (c=39)) (txS T s)=true then (⟨2,0,((txS T s).drop 1).take ((txS T s).length - 2)⟩,(s.1+1,s.2))
 else (⟨1,((ybp T s).1:Nat),[]⟩,(ybp T s).2)
def ycq (w:List UInt8):Nat :=
 if w=ynD then 5 else if w=ytk then 6 else if w=[43] then 7 else if w=[45] then 8 else if w=[124,124] then 9 else if w=[60] then 10 else if w=[61] then 11 else 0
def yiz (T:List Tk) (s:Sx):Nat×Sx:=if ycq (txS T s)=0 then (0,(s.1,true)) else (ycq (txS T s),(s.1+1,s.2))
def thenS {α β:Type} (f:Sx→α×Sx) (g:α→Sx→β×Sx) (s:Sx):β×Sx:=g (f s).1 (f s).2
def ytu {α:Type} (a:α) (s:Sx):α×Sx:=(a,s)
def ylo {α:Type} (T:List Tk) (w:List UInt8) (f g:Sx→α×Sx) (s:Sx):α×Sx:=if (ybG T w s).1=true then f (ybG T w s).2 else g s
theorem ypc:yap []=false:=by kernel_rfl
def ybO (T:List Tk):Nat→Sx→Ex×Sx
 | 0,s =>
  if txS T s=[40]∨txS T s=w_not then (ex0,(s.1,true))
  else if yfn (txS T s)=true then (.mk 1 (ydb T s).1 [] [],(ydb T s).2) else (.mk 2 vl0 (yd5 T s).1 [],(yd5 T s).2)
 | f+1,s =>
  if txS T s=w_not then (.mk 3 vl0 [] [(ybO T f (s.1+1,s.2)).1],(ybO T f (s.1+1,s.2)).2)
  else if txS T s=[40] then
   thenS (ybO T f) (fun a=>ylo T w_is (thenS (yc4 T w_null) fun _=>thenS (yc4 T [41]) fun _=>ytu (.mk 4 vl0 [] [a]))
    (thenS (yiz T) fun k=>thenS (ybO T f) fun b=>thenS (yc4 T [41]) fun _=>ytu (.mk (k:Nat) vl0 [] [a,b]))) (s.1+1,s.2)
  else if yfn (txS T s)=true then (.mk 1 (ydb T s).1 [] [],(ydb T s).2) else (.mk 2 vl0 (yd5 T s).1 [],(yd5 T s).2)
theorem yq6:yfn []=false:=by decide
def ygs (T:List Tk) (c:Cm):Sx→Cm×Sx:=ylo T w_where (thenS (ybO T 60) fun e=>ytu { c with all:=false,wh:=e }) (ytu { c with all:=true })
end Go.Proofs.YtkpeklealgicpabGreatDoor
