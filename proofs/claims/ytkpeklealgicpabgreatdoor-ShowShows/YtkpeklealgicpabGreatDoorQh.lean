/-
  isRight: its region.
  isRight, of any kind.
  Check, whole: 2 where a count is past its limit, 0 where the command is right, else 1.
  What is true of every token that is scanned.
  The document's reader, without memory.
  The program's parser is the document's reader, on whatever is scanned.
  The document's reader, as it goes on whether it has failed or not: where it is, and whether it has.
  The document's own small functions (package overhaulref), as the laws call them: they answer the same plain functions.
  The document's 'TokenWrong' and 'ScanOf' (package overhaulref): they answer the same plain functions as the program's.
  The document's 'IsToken' (package overhaulref): it is what 'alone' asks.
-/
import Derived.Test.YtkpeklealgicpabGreatDoorQa
import Derived.Test.YtkpeklealgicpabGreatDoorQc
import Derived.Test.YtkpeklealgicpabGreatDoorQd

set_option maxRecDepth 100000
set_option maxHeartbeats 8000000
namespace Go.Proofs.YtkpeklealgicpabGreatDoor
open Go.RowKit
def Xs (m o:Int) (r e:Bool):Bool:=if yaL m o=true then r else e
def ybU (c:Cm) (m:Int) (kd:Bool):Bool:=(kd&&(Xs m 1 (yan c.name) (decide (c.name=[]))))
def ybV (c:Cm) (m:Int) (kd:Bool):Bool:=((ybU c m kd)&&(Xs m 2 (yan c.other) (decide (c.other=[]))))
def ybO (c:Cm) (m:Int) (kd:Bool):Bool:=((ybV c m kd)&&(Xs m 4 (yan c.column) (decide (c.column=[]))))
def ybW (c:Cm) (m:Int) (kd:Bool):Bool:=((ybO c m kd)&&(Xs m 8 (ycQ c.cols) (decide (((c.cols.length:Nat):Int)=0))))
def ybP (c:Cm) (m:Int) (kd:Bool):Bool:=((ybW c m kd)&&(Xs m 16 (yeT c.ty) (decide (c.ty=0))))
def ybQ (c:Cm) (m:Int) (kd:Bool):Bool:=((ybP c m kd)&&(Xs m 32 (ybJ c.val) (ybu c.val)))
def ybR (c:Cm) (m:Int) (kd:Bool):Bool:=((ybQ c m kd)&&(Xs m 64 (ycR c.vals) (decide (((c.vals.length:Nat):Int)=0))))
def ybX (c:Cm) (m:Int) (kd:Bool):Bool:=((ybR c m kd)&&(Xs m 128 (c.fields.all yan) (decide (((c.fields.length:Nat):Int)=0))))
def ya9 (c:Cm) (m:Int) (kd:Bool):Bool:=((ybX c m kd)&&(Xs m 256 (yb6 c.expr) (ybe c.expr)))
def ybf (c:Cm) (m:Int) (kd:Bool):Bool:=((ya9 c m kd)&&(Xs m 512 (ydP c.all c.wh) ((!c.all)&&(ybe c.wh))))
def ybg (c:Cm) (m:Int) (kd:Bool):Bool:=((ybf c m kd)&&(Xs m 1024 ((decide (c.order=[])) || (yan c.order)) (decide (c.order=[]))))
def ycI (c:Cm) (m:Int) (kd:Bool):Bool:=((ybg c m kd)&&(Xs m 2048 ((decide (-1≤c.limit))&&(decide (c.limit≤999999999))) (decide (c.limit=0))))
noncomputable def ris_R:Array Oper:=((Tryz.f29.body).bind (yas 3)).getD #[]
def yuh (c:Cm) (a1 a2 a3:Option Addr) (c1 c2 c3:Nat) (ea wa:Value) (m:Int) (kd:Bool) (b:Nat) (j:Nat):Value:=([.bool kd,.bool kd,gw (kd == true) (.func (.func 71) #[] #[.pointer (some ⟨b+1,0,none⟩)]),gw (kd == true) (.pointer (some ⟨b,1,none⟩)),gw (kd == true) (.string ⟨c.name.toArray⟩),gw (kd == true) (.bool (yan c.name)),gw (kd == true) (.pointer (some ⟨b,1,none⟩)),gw (kd == true) (.string ⟨c.name.toArray⟩),gw (kd == true) (.bool (decide (c.name=[]))),gw (kd == true) (.bool (Xs m 1 (yan c.name) (decide (c.name=[])))),.bool (ybU c m kd),.bool (ybU c m kd),gw ((ybU c m kd) == true) (.func (.func 71) #[] #[.pointer (some ⟨b+1,0,none⟩)]),gw ((ybU c m kd) == true) (.pointer (some ⟨b,2,none⟩)),gw ((ybU c m kd) == true) (.string ⟨c.other.toArray⟩),gw ((ybU c m kd) == true) (.bool (yan c.other)),gw ((ybU c m kd) == true) (.pointer (some ⟨b,2,none⟩)),gw ((ybU c m kd) == true) (.string ⟨c.other.toArray⟩),gw ((ybU c m kd) == true) (.bool (decide (c.other=[]))),gw ((ybU c m kd) == true) (.bool (Xs m 2 (yan c.other) (decide (c.other=[])))),.bool (ybV c m kd),.bool (ybV c m kd),gw ((ybV c m kd) == true) (.func (.func 71) #[] #[.pointer (some ⟨b+1,0,none⟩)]),gw ((ybV c m kd) == true) (.pointer (some ⟨b,3,none⟩)),gw ((ybV c m kd) == true) (.string ⟨c.column.toArray⟩),gw ((ybV c m kd) == true) (.bool (yan c.column)),gw ((ybV c m kd) == true) (.pointer (some ⟨b,3,none⟩)),gw ((ybV c m kd) == true) (.string ⟨c.column.toArray⟩),gw ((ybV c m kd) == true) (.bool (decide (c.column=[]))),gw ((ybV c m kd) == true) (.bool (Xs m 4 (yan c.column) (decide (c.column=[])))),.bool (ybO c m kd),.bool (ybO c m kd),gw ((ybO c m kd) == true) (.func (.func 71) #[] #[.pointer (some ⟨b+1,0,none⟩)]),gw ((ybO c m kd) == true) (.pointer (some ⟨b,4,none⟩)),gw ((ybO c m kd) == true) (.slice a1 c.cols.length c1),gw ((ybO c m kd) == true) (.bool (ycQ c.cols)),gw ((ybO c m kd) == true) (.pointer (some ⟨b,4,none⟩)),gw ((ybO c m kd) == true) (.slice a1 c.cols.length c1),gw ((ybO c m kd) == true) (.int .i64 ((c.cols.length:Nat):Int)),gw ((ybO c m kd) == true) (.bool (decide (((c.cols.length:Nat):Int)=0))),gw ((ybO c m kd) == true) (.bool (Xs m 8 (ycQ c.cols) (decide (((c.cols.length:Nat):Int)=0)))),.bool (ybW c m kd),.bool (ybW c m kd),gw ((ybW c m kd) == true) (.func (.func 71) #[] #[.pointer (some ⟨b+1,0,none⟩)]),gw ((ybW c m kd) == true) (.pointer (some ⟨b,5,none⟩)),gw ((ybW c m kd) == true) (.int .i64 c.ty),gw ((ybW c m kd) == true) (.bool (yeT c.ty)),gw ((ybW c m kd) == true) (.pointer (some ⟨b,5,none⟩)),gw ((ybW c m kd) == true) (.int .i64 c.ty),gw ((ybW c m kd) == true) (.bool (decide (c.ty=0))),gw ((ybW c m kd) == true) (.bool (Xs m 16 (yeT c.ty) (decide (c.ty=0)))),.bool (ybP c m kd),.bool (ybP c m kd),gw ((ybP c m kd) == true) (.func (.func 71) #[] #[.pointer (some ⟨b+1,0,none⟩)]),gw ((ybP c m kd) == true) (.pointer (some ⟨b,6,none⟩)),gw ((ybP c m kd) == true) (.agg #[.int .i64 c.val.k,.int .i64 c.val.n,.string ⟨c.val.s.toArray⟩]),gw ((ybP c m kd) == true) (.bool (ybJ c.val)),gw ((ybP c m kd) == true) (.pointer (some ⟨b,6,none⟩)),gw ((ybP c m kd) == true) (.agg #[.int .i64 c.val.k,.int .i64 c.val.n,.string ⟨c.val.s.toArray⟩]),gw ((ybP c m kd) == true) (.agg #[.int .i64 0,.int .i64 0,.string ⟨#[]⟩]),gw ((ybP c m kd) == true) (.bool (ybu c.val)),gw ((ybP c m kd) == true) (.bool (Xs m 32 (ybJ c.val) (ybu c.val))),.bool (ybQ c m kd),.bool (ybQ c m kd),gw ((ybQ c m kd) == true) (.func (.func 71) #[] #[.pointer (some ⟨b+1,0,none⟩)]),gw ((ybQ c m kd) == true) (.pointer (some ⟨b,9,none⟩)),gw ((ybQ c m kd) == true) (.slice a2 c.vals.length c2),gw ((ybQ c m kd) == true) (.bool (ycR c.vals)),gw ((ybQ c m kd) == true) (.pointer (some ⟨b,9,none⟩)),gw ((ybQ c m kd) == true) (.slice a2 c.vals.length c2),gw ((ybQ c m kd) == true) (.int .i64 ((c.vals.length:Nat):Int)),gw ((ybQ c m kd) == true) (.bool (decide (((c.vals.length:Nat):Int)=0))),gw ((ybQ c m kd) == true) (.bool (Xs m 64 (ycR c.vals) (decide (((c.vals.length:Nat):Int)=0)))),.bool (ybR c m kd),.bool (ybR c m kd),gw ((ybR c m kd) == true) (.func (.func 71) #[] #[.pointer (some ⟨b+1,0,none⟩)]),gw ((ybR c m kd) == true) (.pointer (some ⟨b,10,none⟩)),gw ((ybR c m kd) == true) (.slice a3 c.fields.length c3),gw ((ybR c m kd) == true) (.bool (c.fields.all yan)),gw ((ybR c m kd) == true) (.pointer (some ⟨b,10,none⟩)),gw ((ybR c m kd) == true) (.slice a3 c.fields.length c3),gw ((ybR c m kd) == true) (.int .i64 ((c.fields.length:Nat):Int)),gw ((ybR c m kd) == true) (.bool (decide (((c.fields.length:Nat):Int)=0))),gw ((ybR c m kd) == true) (.bool (Xs m 128 (c.fields.all yan) (decide (((c.fields.length:Nat):Int)=0)))),.bool (ybX c m kd),.bool (ybX c m kd),gw ((ybX c m kd) == true) (.func (.func 71) #[] #[.pointer (some ⟨b+1,0,none⟩)]),gw ((ybX c m kd) == true) (.pointer (some ⟨b,11,none⟩)),gw ((ybX c m kd) == true) (.agg #[.int .i64 c.expr.k,.int .i64 c.expr.v.k,.int .i64 c.expr.v.n,.string ⟨c.expr.v.s.toArray⟩,.string ⟨c.expr.nm.toArray⟩,ea]),gw ((ybX c m kd) == true) (.bool (yb6 c.expr)),gw ((ybX c m kd) == true) (.pointer (some ⟨b,11,none⟩)),gw ((ybX c m kd) == true) (.agg #[.int .i64 c.expr.k,.int .i64 c.expr.v.k,.int .i64 c.expr.v.n,.string ⟨c.expr.v.s.toArray⟩,.string ⟨c.expr.nm.toArray⟩,ea]),gw ((ybX c m kd) == true) (.bool (ybe c.expr)),gw ((ybX c m kd) == true) (.bool (Xs m 256 (yb6 c.expr) (ybe c.expr))),.bool (ya9 c m kd),.bool (ya9 c m kd),gw ((ya9 c m kd) == true) (.func (.func 71) #[] #[.pointer (some ⟨b+1,0,none⟩)]),gw ((ya9 c m kd) == true) (.pointer (some ⟨b,17,none⟩)),gw ((ya9 c m kd) == true) (.bool c.all),gw ((ya9 c m kd) == true) (.pointer (some ⟨b,18,none⟩)),gw ((ya9 c m kd) == true) (.agg #[.int .i64 c.wh.k,.int .i64 c.wh.v.k,.int .i64 c.wh.v.n,.string ⟨c.wh.v.s.toArray⟩,.string ⟨c.wh.nm.toArray⟩,wa]),gw ((ya9 c m kd) == true) (.bool (ydP c.all c.wh)),gw ((ya9 c m kd) == true) (.pointer (some ⟨b,17,none⟩)),gw ((ya9 c m kd) == true) (.bool c.all),gw ((ya9 c m kd) == true) (.bool (!c.all)),gw ((ya9 c m kd) == true) (.bool (!c.all)),gw (((ya9 c m kd) == true)&&((!c.all) == true)) (.pointer (some ⟨b,18,none⟩)),gw (((ya9 c m kd) == true)&&((!c.all) == true)) (.agg #[.int .i64 c.wh.k,.int .i64 c.wh.v.k,.int .i64 c.wh.v.n,.string ⟨c.wh.v.s.toArray⟩,.string ⟨c.wh.nm.toArray⟩,wa]),gw (((ya9 c m kd) == true)&&((!c.all) == true)) (.bool (ybe c.wh)),gw ((ya9 c m kd) == true) (.bool ((!c.all)&&(ybe c.wh))),gw ((ya9 c m kd) == true) (.bool (Xs m 512 (ydP c.all c.wh) ((!c.all)&&(ybe c.wh)))),.bool (ybf c m kd),.bool (ybf c m kd),gw ((ybf c m kd) == true) (.func (.func 71) #[] #[.pointer (some ⟨b+1,0,none⟩)]),gw ((ybf c m kd) == true) (.pointer (some ⟨b,24,none⟩)),gw ((ybf c m kd) == true) (.string ⟨c.order.toArray⟩),gw ((ybf c m kd) == true) (.bool (decide (c.order=[]))),gw ((ybf c m kd) == true) (.bool (decide (c.order=[]))),gw (((ybf c m kd) == true)&&((decide (c.order=[])) == false)) (.pointer (some ⟨b,24,none⟩)),gw (((ybf c m kd) == true)&&((decide (c.order=[])) == false)) (.string ⟨c.order.toArray⟩),gw (((ybf c m kd) == true)&&((decide (c.order=[])) == false)) (.bool (yan c.order)),gw ((ybf c m kd) == true) (.bool ((decide (c.order=[])) || (yan c.order))),gw ((ybf c m kd) == true) (.pointer (some ⟨b,24,none⟩)),gw ((ybf c m kd) == true) (.string ⟨c.order.toArray⟩),gw ((ybf c m kd) == true) (.bool (decide (c.order=[]))),gw ((ybf c m kd) == true) (.bool (Xs m 1024 ((decide (c.order=[])) || (yan c.order)) (decide (c.order=[])))),.bool (ybg c m kd),.bool (ybg c m kd),gw ((ybg c m kd) == true) (.func (.func 71) #[] #[.pointer (some ⟨b+1,0,none⟩)]),gw ((ybg c m kd) == true) (.pointer (some ⟨b,25,none⟩)),gw ((ybg c m kd) == true) (.int .i64 c.limit),gw ((ybg c m kd) == true) (.bool (decide (-1≤c.limit))),gw ((ybg c m kd) == true) (.bool (decide (-1≤c.limit))),gw (((ybg c m kd) == true)&&((decide (-1≤c.limit)) == true)) (.pointer (some ⟨b,25,none⟩)),gw (((ybg c m kd) == true)&&((decide (-1≤c.limit)) == true)) (.int .i64 c.limit),gw (((ybg c m kd) == true)&&((decide (-1≤c.limit)) == true)) (.bool (decide (c.limit≤999999999))),gw ((ybg c m kd) == true) (.bool ((decide (-1≤c.limit))&&(decide (c.limit≤999999999)))),gw ((ybg c m kd) == true) (.pointer (some ⟨b,25,none⟩)),gw ((ybg c m kd) == true) (.int .i64 c.limit),gw ((ybg c m kd) == true) (.bool (decide (c.limit=0))),gw ((ybg c m kd) == true) (.bool (Xs m 2048 ((decide (-1≤c.limit))&&(decide (c.limit≤999999999))) (decide (c.limit=0)))),.bool (ycI c m kd),.bool (ycI c m kd)]:List Value).getD j undef
def ris_d:List (Option Tmp):=[some 13,some 14,some 15,some 16,some 17,some 18,some 19,some 20,some 21,some 22,some 23,some 24,some 25,some 26,some 27,some 28,some 29,some 30,some 31,some 32,some 33,some 34,some 35,some 36,some 37,some 38,some 39,some 40,some 41,some 42,some 43,some 44,some 45,some 46,some 47,some 48,some 49,some 50,some 51,some 52,some 53,some 54,some 55,some 56,some 57,some 58,some 59,some 60,some 61,some 62,some 63,some 64,some 65,some 66,some 67,some 68,some 69,some 70,some 71,some 72,some 73,some 74,some 75,some 76,some 77,some 78,some 79,some 80,some 81,some 82,some 83,some 84,some 85,some 86,some 87,some 88,some 89,some 90,some 91,some 92,some 93,some 94,some 95,some 96,some 97,some 98,some 99,some 100,some 101,some 102,some 103,some 104,some 105,some 106,some 107,some 108,some 109,some 110,some 111,some 112,some 113,some 114,some 115,some 116,some 117,some 118,some 119,some 120,some 121,some 122,some 123,some 124,some 125,some 126,some 127,some 128,some 129,some 130,some 131,some 132,some 133,some 134,some 135,some 136,some 137,some 138,some 139,some 140,some 141,some 142,some 143,some 144,some 145,some 146,some 147,some 148,some 149,some 150,some 151,some 152,some 153,some 154,some 2]
theorem ygO:ris_d.Nodup:=by unfold ris_d;decide
theorem ysK {c:Cm} {a1 a2 a3:Option Addr} {c1 c2 c3:Nat} {ea wa:Value} {m:Int} {kd:Bool} {b:Nat} {S:World→Prop} {a0:Act} {Q:Exit→Act→World→Prop} {w:World} (h1:a0.tmps[1]?=some (.pointer (some ⟨b,0,none⟩))) (h4:a0.tmps[4]?=some (.bool kd)) (h5:a0.tmps[5]?=some (.func (.func 71) #[] #[.pointer (some ⟨b+1,0,none⟩)])) (hcell:∀ W,S W→∀ o x,(cmL c (.slice a1 c.cols.length c1) (.slice a2 c.vals.length c2) (.slice a3 c.fields.length c3) ea wa)[o]?=some x→W.cell? ⟨b,o,none⟩=some x) (qis:∀ (o:Int) (r e:Bool) W,S W→Calls Tryz.prog 71 #[.int .i64 o,.bool r,.bool e,.pointer (some ⟨b+1,0,none⟩)] W fun x w'=>x=.returned (.bool (Xs m o r e))∧S w') (q18:∀ W,S W→Calls Tryz.prog 72 #[.string ⟨c.name.toArray⟩] W fun e w'=>e=.returned (.bool (yan c.name))∧S w') (q28:∀ W,S W→Calls Tryz.prog 72 #[.string ⟨c.other.toArray⟩] W fun e w'=>e=.returned (.bool (yan c.other))∧S w') (q38:∀ W,S W→Calls Tryz.prog 72 #[.string ⟨c.column.toArray⟩] W fun e w'=>e=.returned (.bool (yan c.column))∧S w') (q48:∀ W,S W→Calls Tryz.prog 73 #[.slice a1 c.cols.length c1] W fun e w'=>e=.returned (.bool (ycQ c.cols))∧S w') (q59:∀ W,S W→Calls Tryz.prog 74 #[.int .i64 c.ty] W fun e w'=>e=.returned (.bool (yeT c.ty))∧S w') (q69:∀ W,S W→Calls Tryz.prog 75 #[.agg #[.int .i64 c.val.k,.int .i64 c.val.n,.string ⟨c.val.s.toArray⟩]] W fun e w'=>e=.returned (.bool (ybJ c.val))∧S w') (q80:∀ W,S W→Calls Tryz.prog 76 #[.slice a2 c.vals.length c2] W fun e w'=>e=.returned (.bool (ycR c.vals))∧S w') (q91:∀ W,S W→Calls Tryz.prog 77 #[.slice a3 c.fields.length c3,.func (.func 72) #[] #[]] W fun e w'=>e=.returned (.bool (c.fields.all yan))∧S w') (q102:∀ W,S W→Calls Tryz.prog 78 #[.agg #[.int .i64 c.expr.k,.int .i64 c.expr.v.k,.int .i64 c.expr.v.n,.string ⟨c.expr.v.s.toArray⟩,.string ⟨c.expr.nm.toArray⟩,ea]] W fun e w'=>e=.returned (.bool (yb6 c.expr))∧S w') (q105:∀ W,S W→Calls Tryz.prog 79 #[.agg #[.int .i64 c.expr.k,.int .i64 c.expr.v.k,.int .i64 c.expr.v.n,.string ⟨c.expr.v.s.toArray⟩,.string ⟨c.expr.nm.toArray⟩,ea]] W fun e w'=>e=.returned (.bool (ybe c.expr))∧S w') (q114:∀ W,S W→Calls Tryz.prog 80 #[.bool c.all,.agg #[.int .i64 c.wh.k,.int .i64 c.wh.v.k,.int .i64 c.wh.v.n,.string ⟨c.wh.v.s.toArray⟩,.string ⟨c.wh.nm.toArray⟩,wa]] W fun e w'=>e=.returned (.bool (ydP c.all c.wh))∧S w') (q121:∀ W,S W→Calls Tryz.prog 79 #[.agg #[.int .i64 c.wh.k,.int .i64 c.wh.v.k,.int .i64 c.wh.v.n,.string ⟨c.wh.v.s.toArray⟩,.string ⟨c.wh.nm.toArray⟩,wa]] W fun e w'=>e=.returned (.bool (ybe c.wh))∧S w') (q133:∀ W,S W→Calls Tryz.prog 72 #[.string ⟨c.order.toArray⟩] W fun e w'=>e=.returned (.bool (yan c.order))∧S w') (ha:a0.tmps.size=155) (hS:S w.drew)
  (hq:∀ w',S w'→Q .normal { tmps:=(ydW a0.tmps.toList (ris_d.zip ((List.range 143).map (yuh c a1 a2 a3 c1 c2 c3 ea wa m kd b)))).toArray,defers:=a0.defers } w'):(Code.region 3 ris_R true).wp Tryz.prog Q a0 w:=by
 have hz:ris_R.size=143:=by kernel_rfl
 refine yd9 (m:=155) (by kernel_rfl) hz (by kernel_rfl) (by kernel_rfl) ygO ha ?_ hS hq
 refine us ?_ (ya1 hz (by decide) (by kernel_rfl) fun _ _ s _=>yaA (x:=.tmp 154) (by kernel_rfl) (s.u 141 154 (by kernel_rfl)))
 refine us ?_ (ya1 hz (by decide) (by kernel_rfl) fun _ _ s _=>yav (G:=true) (by kernel_rfl) (s.u 127 140 (by kernel_rfl)) (s.u 140 153 (by kernel_rfl)) rfl rfl)
 refine us ?_ (yc9 true 127 140 true hz (by decide) (by kernel_rfl) rfl rfl (fun hG _ _ s=>yea (ts:=#[3,4,4]) (t:=.tmp 141) (x:=.const (.int .i64 2048)) (y:=.tmp 149) (z:=.tmp 152) (f:=71) yke (by kernel_rfl) (s.g 128 141 (by kernel_rfl) hG rfl) (rfl) (s.g 136 149 (by kernel_rfl) hG rfl) (s.g 139 152 (by kernel_rfl) hG rfl)) (qis _ _ _))
 refine us ?_ (yaM true 127 140 true hz (by decide) (by kernel_rfl) rfl rfl fun hG _ W s _=>yaq (u:=3) (x:=.tmp 151) (y:=.const (.int .i64 0)) (by kernel_rfl) (s.g 138 151 (by kernel_rfl) hG rfl) (rfl) (yee W _ _ _ _))
 refine us ?_ (yaM true 127 140 true hz (by decide) (by kernel_rfl) rfl rfl fun hG _ W s hS=>yaf (x:=.tmp 150) (t:=3) (by kernel_rfl) (s.g 137 150 (by kernel_rfl) hG rfl) (ld3 W _ 25 _ (hcell W hS 25 _ rfl)))
 refine us ?_ (yaM true 127 140 true hz (by decide) (by kernel_rfl) rfl rfl fun _ _ W s _=>yad (x:=.tmp 1) (t:=31) (f:=13) (by kernel_rfl) (s.b 1 (by kernel_rfl) h1) (ypO W _))
 refine us ?_ (yaM true 127 140 true hz (by decide) (by kernel_rfl) rfl rfl fun hG _ _ s _=>yav (by kernel_rfl) (s.g 132 145 (by kernel_rfl) hG rfl) (s.u 135 148 (by kernel_rfl)) rfl hG)
 refine us ?_ (yaM _ 132 145 true hz (by decide) (by kernel_rfl) rfl rfl fun hG _ W s _=>yaq (u:=3) (x:=.tmp 147) (y:=.const (.int .i64 999999999)) (by kernel_rfl) (s.g 134 147 (by kernel_rfl) hG rfl) (rfl) (yso W _ _ _ _))
 refine us ?_ (yaM _ 132 145 true hz (by decide) (by kernel_rfl) rfl rfl fun hG _ W s hS=>yaf (x:=.tmp 146) (t:=3) (by kernel_rfl) (s.g 133 146 (by kernel_rfl) hG rfl) (ld3 W _ 25 _ (hcell W hS 25 _ rfl)))
 refine us ?_ (yaM _ 132 145 true hz (by decide) (by kernel_rfl) rfl rfl fun _ _ W s _=>yad (x:=.tmp 1) (t:=31) (f:=13) (by kernel_rfl) (s.b 1 (by kernel_rfl) h1) (ypO W _))
 refine us ?_ (yaM true 127 140 true hz (by decide) (by kernel_rfl) rfl rfl fun hG _ _ s _=>yac (x:=.tmp 144) (by kernel_rfl) (s.g 131 144 (by kernel_rfl) hG rfl))
 refine us ?_ (yaM true 127 140 true hz (by decide) (by kernel_rfl) rfl rfl fun hG _ W s _=>yaq (u:=3) (x:=.tmp 143) (y:=.const (.int .i64 (-1))) (by kernel_rfl) (s.g 130 143 (by kernel_rfl) hG rfl) (rfl) (yu1 W _ _ _))
 refine us ?_ (yaM true 127 140 true hz (by decide) (by kernel_rfl) rfl rfl fun hG _ W s hS=>yaf (x:=.tmp 142) (t:=3) (by kernel_rfl) (s.g 129 142 (by kernel_rfl) hG rfl) (ld3 W _ 25 _ (hcell W hS 25 _ rfl)))
 refine us ?_ (yaM true 127 140 true hz (by decide) (by kernel_rfl) rfl rfl fun _ _ W s _=>yad (x:=.tmp 1) (t:=31) (f:=13) (by kernel_rfl) (s.b 1 (by kernel_rfl) h1) (ypO W _))
 refine us ?_ (yaM true 127 140 true hz (by decide) (by kernel_rfl) rfl rfl fun _ _ _ s _=>yac (x:=.tmp 5) (by kernel_rfl) (s.b 5 (by kernel_rfl) h5))
 refine us ?_ (ya1 hz (by decide) (by kernel_rfl) fun _ _ s _=>yac (x:=.tmp 139) (by kernel_rfl) (s.u 126 139 (by kernel_rfl)))
 refine us ?_ (ya1 hz (by decide) (by kernel_rfl) fun _ _ s _=>yav (G:=true) (by kernel_rfl) (s.u 112 125 (by kernel_rfl)) (s.u 125 138 (by kernel_rfl)) rfl rfl)
 refine us ?_ (yc9 true 112 125 true hz (by decide) (by kernel_rfl) rfl rfl (fun hG _ _ s=>yea (ts:=#[3,4,4]) (t:=.tmp 126) (x:=.const (.int .i64 1024)) (y:=.tmp 134) (z:=.tmp 137) (f:=71) yke (by kernel_rfl) (s.g 113 126 (by kernel_rfl) hG rfl) (rfl) (s.g 121 134 (by kernel_rfl) hG rfl) (s.g 124 137 (by kernel_rfl) hG rfl)) (qis _ _ _))
 refine us ?_ (yaM true 112 125 true hz (by decide) (by kernel_rfl) rfl rfl fun hG _ W s _=>yaq (u:=9) (x:=.tmp 136) (y:=.const (.string ⟨#[]⟩)) (by kernel_rfl) (s.g 123 136 (by kernel_rfl) hG rfl) (rfl) (eq9 W _ _ _))
 refine us ?_ (yaM true 112 125 true hz (by decide) (by kernel_rfl) rfl rfl fun hG _ W s hS=>yaf (x:=.tmp 135) (t:=9) (by kernel_rfl) (s.g 122 135 (by kernel_rfl) hG rfl) (ld9 W _ 24 _ (hcell W hS 24 _ rfl)))
 refine us ?_ (yaM true 112 125 true hz (by decide) (by kernel_rfl) rfl rfl fun _ _ W s _=>yad (x:=.tmp 1) (t:=31) (f:=12) (by kernel_rfl) (s.b 1 (by kernel_rfl) h1) (ypa W _))
 refine us ?_ (yaM true 112 125 true hz (by decide) (by kernel_rfl) rfl rfl fun hG _ _ s _=>yaS (by kernel_rfl) (s.g 117 130 (by kernel_rfl) hG rfl) (s.u 120 133 (by kernel_rfl)) rfl hG)
 refine us ?_ (yc9 _ 117 130 false hz (by decide) (by kernel_rfl) rfl rfl (fun hG _ _ s=>yaP (ts:=#[9]) (x:=.tmp 132) (f:=72) ys4 (by kernel_rfl) rfl (s.g 119 132 (by kernel_rfl) hG rfl)) q133)
 refine us ?_ (yaM _ 117 130 false hz (by decide) (by kernel_rfl) rfl rfl fun hG _ W s hS=>yaf (x:=.tmp 131) (t:=9) (by kernel_rfl) (s.g 118 131 (by kernel_rfl) hG rfl) (ld9 W _ 24 _ (hcell W hS 24 _ rfl)))
 refine us ?_ (yaM _ 117 130 false hz (by decide) (by kernel_rfl) rfl rfl fun _ _ W s _=>yad (x:=.tmp 1) (t:=31) (f:=12) (by kernel_rfl) (s.b 1 (by kernel_rfl) h1) (ypa W _))
 refine us ?_ (yaM true 112 125 true hz (by decide) (by kernel_rfl) rfl rfl fun hG _ _ s _=>yac (x:=.tmp 129) (by kernel_rfl) (s.g 116 129 (by kernel_rfl) hG rfl))
 refine us ?_ (yaM true 112 125 true hz (by decide) (by kernel_rfl) rfl rfl fun hG _ W s _=>yaq (u:=9) (x:=.tmp 128) (y:=.const (.string ⟨#[]⟩)) (by kernel_rfl) (s.g 115 128 (by kernel_rfl) hG rfl) (rfl) (eq9 W _ _ _))
 refine us ?_ (yaM true 112 125 true hz (by decide) (by kernel_rfl) rfl rfl fun hG _ W s hS=>yaf (x:=.tmp 127) (t:=9) (by kernel_rfl) (s.g 114 127 (by kernel_rfl) hG rfl) (ld9 W _ 24 _ (hcell W hS 24 _ rfl)))
 refine us ?_ (yaM true 112 125 true hz (by decide) (by kernel_rfl) rfl rfl fun _ _ W s _=>yad (x:=.tmp 1) (t:=31) (f:=12) (by kernel_rfl) (s.b 1 (by kernel_rfl) h1) (ypa W _))
 refine us ?_ (yaM true 112 125 true hz (by decide) (by kernel_rfl) rfl rfl fun _ _ _ s _=>yac (x:=.tmp 5) (by kernel_rfl) (s.b 5 (by kernel_rfl) h5))
 refine us ?_ (ya1 hz (by decide) (by kernel_rfl) fun _ _ s _=>yac (x:=.tmp 124) (by kernel_rfl) (s.u 111 124 (by kernel_rfl)))
 refine us ?_ (ya1 hz (by decide) (by kernel_rfl) fun _ _ s _=>yav (G:=true) (by kernel_rfl) (s.u 95 108 (by kernel_rfl)) (s.u 110 123 (by kernel_rfl)) rfl rfl)
 refine us ?_ (yc9 true 95 108 true hz (by decide) (by kernel_rfl) rfl rfl (fun hG _ _ s=>yea (ts:=#[3,4,4]) (t:=.tmp 109) (x:=.const (.int .i64 512)) (y:=.tmp 114) (z:=.tmp 122) (f:=71) yke (by kernel_rfl) (s.g 96 109 (by kernel_rfl) hG rfl) (rfl) (s.g 101 114 (by kernel_rfl) hG rfl) (s.g 109 122 (by kernel_rfl) hG rfl)) (qis _ _ _))
 refine us ?_ (yaM true 95 108 true hz (by decide) (by kernel_rfl) rfl rfl fun hG _ _ s _=>yav (by kernel_rfl) (s.g 105 118 (by kernel_rfl) hG rfl) (s.u 108 121 (by kernel_rfl)) rfl hG)
 refine us ?_ (yc9 _ 105 118 true hz (by decide) (by kernel_rfl) rfl rfl (fun hG _ _ s=>yaP (ts:=#[29]) (x:=.tmp 120) (f:=79) yuB (by kernel_rfl) rfl (s.g 107 120 (by kernel_rfl) hG rfl)) q121)
 refine us ?_ (yaM _ 105 118 true hz (by decide) (by kernel_rfl) rfl rfl fun hG _ W s hS=>yaf (x:=.tmp 119) (t:=29) (by kernel_rfl) (s.g 106 119 (by kernel_rfl) hG rfl) (ygD W _ 18 _ _ _ _ _ _ (hcell W hS 18 _ rfl) (hcell W hS 19 _ rfl) (hcell W hS 20 _ rfl) (hcell W hS 21 _ rfl) (hcell W hS 22 _ rfl) (hcell W hS 23 _ rfl)))
 refine us ?_ (yaM _ 105 118 true hz (by decide) (by kernel_rfl) rfl rfl fun _ _ W s _=>yad (x:=.tmp 1) (t:=31) (f:=11) (by kernel_rfl) (s.b 1 (by kernel_rfl) h1) (ypN W _))
 refine us ?_ (yaM true 95 108 true hz (by decide) (by kernel_rfl) rfl rfl fun hG _ _ s _=>yac (x:=.tmp 117) (by kernel_rfl) (s.g 104 117 (by kernel_rfl) hG rfl))
 refine us ?_ (yaM true 95 108 true hz (by decide) (by kernel_rfl) rfl rfl fun hG _ W s _=>yhr (x:=.tmp 116) (t:=4) (op:=.not) (by kernel_rfl) (s.g 103 116 (by kernel_rfl) hG rfl) (yqB W _))
 refine us ?_ (yaM true 95 108 true hz (by decide) (by kernel_rfl) rfl rfl fun hG _ W s hS=>yaf (x:=.tmp 115) (t:=4) (by kernel_rfl) (s.g 102 115 (by kernel_rfl) hG rfl) (ld4 W _ 17 _ (hcell W hS 17 _ rfl)))
 refine us ?_ (yaM true 95 108 true hz (by decide) (by kernel_rfl) rfl rfl fun _ _ W s _=>yad (x:=.tmp 1) (t:=31) (f:=10) (by kernel_rfl) (s.b 1 (by kernel_rfl) h1) (yq8 W _))
 refine us ?_ (yc9 true 95 108 true hz (by decide) (by kernel_rfl) rfl rfl (fun hG _ _ s=>ybp (ts:=#[4,29]) (x:=.tmp 111) (y:=.tmp 113) (f:=80) yuQ (by kernel_rfl) rfl (s.g 98 111 (by kernel_rfl) hG rfl) (s.g 100 113 (by kernel_rfl) hG rfl)) q114)
 refine us ?_ (yaM true 95 108 true hz (by decide) (by kernel_rfl) rfl rfl fun hG _ W s hS=>yaf (x:=.tmp 112) (t:=29) (by kernel_rfl) (s.g 99 112 (by kernel_rfl) hG rfl) (ygD W _ 18 _ _ _ _ _ _ (hcell W hS 18 _ rfl) (hcell W hS 19 _ rfl) (hcell W hS 20 _ rfl) (hcell W hS 21 _ rfl) (hcell W hS 22 _ rfl) (hcell W hS 23 _ rfl)))
 refine us ?_ (yaM true 95 108 true hz (by decide) (by kernel_rfl) rfl rfl fun _ _ W s _=>yad (x:=.tmp 1) (t:=31) (f:=11) (by kernel_rfl) (s.b 1 (by kernel_rfl) h1) (ypN W _))
 refine us ?_ (yaM true 95 108 true hz (by decide) (by kernel_rfl) rfl rfl fun hG _ W s hS=>yaf (x:=.tmp 110) (t:=4) (by kernel_rfl) (s.g 97 110 (by kernel_rfl) hG rfl) (ld4 W _ 17 _ (hcell W hS 17 _ rfl)))
 refine us ?_ (yaM true 95 108 true hz (by decide) (by kernel_rfl) rfl rfl fun _ _ W s _=>yad (x:=.tmp 1) (t:=31) (f:=10) (by kernel_rfl) (s.b 1 (by kernel_rfl) h1) (yq8 W _))
 refine us ?_ (yaM true 95 108 true hz (by decide) (by kernel_rfl) rfl rfl fun _ _ _ s _=>yac (x:=.tmp 5) (by kernel_rfl) (s.b 5 (by kernel_rfl) h5))
 refine us ?_ (ya1 hz (by decide) (by kernel_rfl) fun _ _ s _=>yac (x:=.tmp 107) (by kernel_rfl) (s.u 94 107 (by kernel_rfl)))
 refine us ?_ (ya1 hz (by decide) (by kernel_rfl) fun _ _ s _=>yav (G:=true) (by kernel_rfl) (s.u 85 98 (by kernel_rfl)) (s.u 93 106 (by kernel_rfl)) rfl rfl)
 refine us ?_ (yc9 true 85 98 true hz (by decide) (by kernel_rfl) rfl rfl (fun hG _ _ s=>yea (ts:=#[3,4,4]) (t:=.tmp 99) (x:=.const (.int .i64 256)) (y:=.tmp 102) (z:=.tmp 105) (f:=71) yke (by kernel_rfl) (s.g 86 99 (by kernel_rfl) hG rfl) (rfl) (s.g 89 102 (by kernel_rfl) hG rfl) (s.g 92 105 (by kernel_rfl) hG rfl)) (qis _ _ _))
 refine us ?_ (yc9 true 85 98 true hz (by decide) (by kernel_rfl) rfl rfl (fun hG _ _ s=>yaP (ts:=#[29]) (x:=.tmp 104) (f:=79) yuB (by kernel_rfl) rfl (s.g 91 104 (by kernel_rfl) hG rfl)) q105)
 refine us ?_ (yaM true 85 98 true hz (by decide) (by kernel_rfl) rfl rfl fun hG _ W s hS=>yaf (x:=.tmp 103) (t:=29) (by kernel_rfl) (s.g 90 103 (by kernel_rfl) hG rfl) (ygD W _ 11 _ _ _ _ _ _ (hcell W hS 11 _ rfl) (hcell W hS 12 _ rfl) (hcell W hS 13 _ rfl) (hcell W hS 14 _ rfl) (hcell W hS 15 _ rfl) (hcell W hS 16 _ rfl)))
 refine us ?_ (yaM true 85 98 true hz (by decide) (by kernel_rfl) rfl rfl fun _ _ W s _=>yad (x:=.tmp 1) (t:=31) (f:=9) (by kernel_rfl) (s.b 1 (by kernel_rfl) h1) (fa9 W _))
 refine us ?_ (yc9 true 85 98 true hz (by decide) (by kernel_rfl) rfl rfl (fun hG _ _ s=>yaP (ts:=#[29]) (x:=.tmp 101) (f:=78) yuP (by kernel_rfl) rfl (s.g 88 101 (by kernel_rfl) hG rfl)) q102)
 refine us ?_ (yaM true 85 98 true hz (by decide) (by kernel_rfl) rfl rfl fun hG _ W s hS=>yaf (x:=.tmp 100) (t:=29) (by kernel_rfl) (s.g 87 100 (by kernel_rfl) hG rfl) (ygD W _ 11 _ _ _ _ _ _ (hcell W hS 11 _ rfl) (hcell W hS 12 _ rfl) (hcell W hS 13 _ rfl) (hcell W hS 14 _ rfl) (hcell W hS 15 _ rfl) (hcell W hS 16 _ rfl)))
 refine us ?_ (yaM true 85 98 true hz (by decide) (by kernel_rfl) rfl rfl fun _ _ W s _=>yad (x:=.tmp 1) (t:=31) (f:=9) (by kernel_rfl) (s.b 1 (by kernel_rfl) h1) (fa9 W _))
 refine us ?_ (yaM true 85 98 true hz (by decide) (by kernel_rfl) rfl rfl fun _ _ _ s _=>yac (x:=.tmp 5) (by kernel_rfl) (s.b 5 (by kernel_rfl) h5))
 refine us ?_ (ya1 hz (by decide) (by kernel_rfl) fun _ _ s _=>yac (x:=.tmp 97) (by kernel_rfl) (s.u 84 97 (by kernel_rfl)))
 refine us ?_ (ya1 hz (by decide) (by kernel_rfl) fun _ _ s _=>yav (G:=true) (by kernel_rfl) (s.u 74 87 (by kernel_rfl)) (s.u 83 96 (by kernel_rfl)) rfl rfl)
 refine us ?_ (yc9 true 74 87 true hz (by decide) (by kernel_rfl) rfl rfl (fun hG _ _ s=>yea (ts:=#[3,4,4]) (t:=.tmp 88) (x:=.const (.int .i64 128)) (y:=.tmp 91) (z:=.tmp 95) (f:=71) yke (by kernel_rfl) (s.g 75 88 (by kernel_rfl) hG rfl) (rfl) (s.g 78 91 (by kernel_rfl) hG rfl) (s.g 82 95 (by kernel_rfl) hG rfl)) (qis _ _ _))
 refine us ?_ (yaM true 74 87 true hz (by decide) (by kernel_rfl) rfl rfl fun hG _ W s _=>yaq (u:=3) (x:=.tmp 94) (y:=.const (.int .i64 0)) (by kernel_rfl) (s.g 81 94 (by kernel_rfl) hG rfl) (rfl) (yee W _ _ _ _))
 refine us ?_ (yaM true 74 87 true hz (by decide) (by kernel_rfl) rfl rfl fun hG _ W s _=>ycz (ts:=#[26]) (x:=.tmp 93) (by kernel_rfl) (fun ty=>yoe W a3 c.fields.length c3 ty) (s.g 80 93 (by kernel_rfl) hG rfl))
 refine us ?_ (yaM true 74 87 true hz (by decide) (by kernel_rfl) rfl rfl fun hG _ W s hS=>yaf (x:=.tmp 92) (t:=26) (by kernel_rfl) (s.g 79 92 (by kernel_rfl) hG rfl) (yrb W _ 10 _ (hcell W hS 10 _ rfl)))
 refine us ?_ (yaM true 74 87 true hz (by decide) (by kernel_rfl) rfl rfl fun _ _ W s _=>yad (x:=.tmp 1) (t:=31) (f:=8) (by kernel_rfl) (s.b 1 (by kernel_rfl) h1) (fa8 W _))
 refine us ?_ (yc9 true 74 87 true hz (by decide) (by kernel_rfl) rfl rfl (fun hG _ _ s=>ybp (ts:=#[26,37]) (x:=.tmp 90) (y:=.func 72) (f:=77) yuO (by kernel_rfl) rfl (s.g 77 90 (by kernel_rfl) hG rfl) (rfl)) q91)
 refine us ?_ (yaM true 74 87 true hz (by decide) (by kernel_rfl) rfl rfl fun hG _ W s hS=>yaf (x:=.tmp 89) (t:=26) (by kernel_rfl) (s.g 76 89 (by kernel_rfl) hG rfl) (yrb W _ 10 _ (hcell W hS 10 _ rfl)))
 refine us ?_ (yaM true 74 87 true hz (by decide) (by kernel_rfl) rfl rfl fun _ _ W s _=>yad (x:=.tmp 1) (t:=31) (f:=8) (by kernel_rfl) (s.b 1 (by kernel_rfl) h1) (fa8 W _))
 refine us ?_ (yaM true 74 87 true hz (by decide) (by kernel_rfl) rfl rfl fun _ _ _ s _=>yac (x:=.tmp 5) (by kernel_rfl) (s.b 5 (by kernel_rfl) h5))
 refine us ?_ (ya1 hz (by decide) (by kernel_rfl) fun _ _ s _=>yac (x:=.tmp 86) (by kernel_rfl) (s.u 73 86 (by kernel_rfl)))
 refine us ?_ (ya1 hz (by decide) (by kernel_rfl) fun _ _ s _=>yav (G:=true) (by kernel_rfl) (s.u 63 76 (by kernel_rfl)) (s.u 72 85 (by kernel_rfl)) rfl rfl)
 refine us ?_ (yc9 true 63 76 true hz (by decide) (by kernel_rfl) rfl rfl (fun hG _ _ s=>yea (ts:=#[3,4,4]) (t:=.tmp 77) (x:=.const (.int .i64 64)) (y:=.tmp 80) (z:=.tmp 84) (f:=71) yke (by kernel_rfl) (s.g 64 77 (by kernel_rfl) hG rfl) (rfl) (s.g 67 80 (by kernel_rfl) hG rfl) (s.g 71 84 (by kernel_rfl) hG rfl)) (qis _ _ _))
 refine us ?_ (yaM true 63 76 true hz (by decide) (by kernel_rfl) rfl rfl fun hG _ W s _=>yaq (u:=3) (x:=.tmp 83) (y:=.const (.int .i64 0)) (by kernel_rfl) (s.g 70 83 (by kernel_rfl) hG rfl) (rfl) (yee W _ _ _ _))
 refine us ?_ (yaM true 63 76 true hz (by decide) (by kernel_rfl) rfl rfl fun hG _ W s _=>ycz (ts:=#[25]) (x:=.tmp 82) (by kernel_rfl) (fun ty=>yod W a2 c.vals.length c2 ty) (s.g 69 82 (by kernel_rfl) hG rfl))
 refine us ?_ (yaM true 63 76 true hz (by decide) (by kernel_rfl) rfl rfl fun hG _ W s hS=>yaf (x:=.tmp 81) (t:=25) (by kernel_rfl) (s.g 68 81 (by kernel_rfl) hG rfl) (yra W _ 9 _ (hcell W hS 9 _ rfl)))
 refine us ?_ (yaM true 63 76 true hz (by decide) (by kernel_rfl) rfl rfl fun _ _ W s _=>yad (x:=.tmp 1) (t:=31) (f:=7) (by kernel_rfl) (s.b 1 (by kernel_rfl) h1) (fa7 W _))
 refine us ?_ (yc9 true 63 76 true hz (by decide) (by kernel_rfl) rfl rfl (fun hG _ _ s=>yaP (ts:=#[25]) (x:=.tmp 79) (f:=76) yuN (by kernel_rfl) rfl (s.g 66 79 (by kernel_rfl) hG rfl)) q80)
 refine us ?_ (yaM true 63 76 true hz (by decide) (by kernel_rfl) rfl rfl fun hG _ W s hS=>yaf (x:=.tmp 78) (t:=25) (by kernel_rfl) (s.g 65 78 (by kernel_rfl) hG rfl) (yra W _ 9 _ (hcell W hS 9 _ rfl)))
 refine us ?_ (yaM true 63 76 true hz (by decide) (by kernel_rfl) rfl rfl fun _ _ W s _=>yad (x:=.tmp 1) (t:=31) (f:=7) (by kernel_rfl) (s.b 1 (by kernel_rfl) h1) (fa7 W _))
 refine us ?_ (yaM true 63 76 true hz (by decide) (by kernel_rfl) rfl rfl fun _ _ _ s _=>yac (x:=.tmp 5) (by kernel_rfl) (s.b 5 (by kernel_rfl) h5))
 refine us ?_ (ya1 hz (by decide) (by kernel_rfl) fun _ _ s _=>yac (x:=.tmp 75) (by kernel_rfl) (s.u 62 75 (by kernel_rfl)))
 refine us ?_ (ya1 hz (by decide) (by kernel_rfl) fun _ _ s _=>yav (G:=true) (by kernel_rfl) (s.u 52 65 (by kernel_rfl)) (s.u 61 74 (by kernel_rfl)) rfl rfl)
 refine us ?_ (yc9 true 52 65 true hz (by decide) (by kernel_rfl) rfl rfl (fun hG _ _ s=>yea (ts:=#[3,4,4]) (t:=.tmp 66) (x:=.const (.int .i64 32)) (y:=.tmp 69) (z:=.tmp 73) (f:=71) yke (by kernel_rfl) (s.g 53 66 (by kernel_rfl) hG rfl) (rfl) (s.g 56 69 (by kernel_rfl) hG rfl) (s.g 60 73 (by kernel_rfl) hG rfl)) (qis _ _ _))
 refine us ?_ (yaM true 52 65 true hz (by decide) (by kernel_rfl) rfl rfl fun hG _ W s _=>yaq (u:=24) (x:=.tmp 71) (y:=.tmp 72) (by kernel_rfl) (s.g 58 71 (by kernel_rfl) hG rfl) (s.g 59 72 (by kernel_rfl) hG rfl) (yuZ W _ _ c.val))
 refine us ?_ (yaM true 52 65 true hz (by decide) (by kernel_rfl) rfl rfl fun _ _ _ _ _=>ydU (by kernel_rfl))
 refine us ?_ (yaM true 52 65 true hz (by decide) (by kernel_rfl) rfl rfl fun hG _ W s hS=>yaf (x:=.tmp 70) (t:=24) (by kernel_rfl) (s.g 57 70 (by kernel_rfl) hG rfl) (yoa W _ 6 _ _ _ (hcell W hS 6 _ rfl) (hcell W hS 7 _ rfl) (hcell W hS 8 _ rfl)))
 refine us ?_ (yaM true 52 65 true hz (by decide) (by kernel_rfl) rfl rfl fun _ _ W s _=>yad (x:=.tmp 1) (t:=31) (f:=6) (by kernel_rfl) (s.b 1 (by kernel_rfl) h1) (fa6 W _))
 refine us ?_ (yc9 true 52 65 true hz (by decide) (by kernel_rfl) rfl rfl (fun hG _ _ s=>yaP (ts:=#[24]) (x:=.tmp 68) (f:=75) yuM (by kernel_rfl) rfl (s.g 55 68 (by kernel_rfl) hG rfl)) q69)
 refine us ?_ (yaM true 52 65 true hz (by decide) (by kernel_rfl) rfl rfl fun hG _ W s hS=>yaf (x:=.tmp 67) (t:=24) (by kernel_rfl) (s.g 54 67 (by kernel_rfl) hG rfl) (yoa W _ 6 _ _ _ (hcell W hS 6 _ rfl) (hcell W hS 7 _ rfl) (hcell W hS 8 _ rfl)))
 refine us ?_ (yaM true 52 65 true hz (by decide) (by kernel_rfl) rfl rfl fun _ _ W s _=>yad (x:=.tmp 1) (t:=31) (f:=6) (by kernel_rfl) (s.b 1 (by kernel_rfl) h1) (fa6 W _))
 refine us ?_ (yaM true 52 65 true hz (by decide) (by kernel_rfl) rfl rfl fun _ _ _ s _=>yac (x:=.tmp 5) (by kernel_rfl) (s.b 5 (by kernel_rfl) h5))
 refine us ?_ (ya1 hz (by decide) (by kernel_rfl) fun _ _ s _=>yac (x:=.tmp 64) (by kernel_rfl) (s.u 51 64 (by kernel_rfl)))
 refine us ?_ (ya1 hz (by decide) (by kernel_rfl) fun _ _ s _=>yav (G:=true) (by kernel_rfl) (s.u 42 55 (by kernel_rfl)) (s.u 50 63 (by kernel_rfl)) rfl rfl)
 refine us ?_ (yc9 true 42 55 true hz (by decide) (by kernel_rfl) rfl rfl (fun hG _ _ s=>yea (ts:=#[3,4,4]) (t:=.tmp 56) (x:=.const (.int .i64 16)) (y:=.tmp 59) (z:=.tmp 62) (f:=71) yke (by kernel_rfl) (s.g 43 56 (by kernel_rfl) hG rfl) (rfl) (s.g 46 59 (by kernel_rfl) hG rfl) (s.g 49 62 (by kernel_rfl) hG rfl)) (qis _ _ _))
 refine us ?_ (yaM true 42 55 true hz (by decide) (by kernel_rfl) rfl rfl fun hG _ W s _=>yaq (u:=3) (x:=.tmp 61) (y:=.const (.int .i64 0)) (by kernel_rfl) (s.g 48 61 (by kernel_rfl) hG rfl) (rfl) (yee W _ _ _ _))
 refine us ?_ (yaM true 42 55 true hz (by decide) (by kernel_rfl) rfl rfl fun hG _ W s hS=>yaf (x:=.tmp 60) (t:=3) (by kernel_rfl) (s.g 47 60 (by kernel_rfl) hG rfl) (ld3 W _ 5 _ (hcell W hS 5 _ rfl)))
 refine us ?_ (yaM true 42 55 true hz (by decide) (by kernel_rfl) rfl rfl fun _ _ W s _=>yad (x:=.tmp 1) (t:=31) (f:=5) (by kernel_rfl) (s.b 1 (by kernel_rfl) h1) (fa5 W _))
 refine us ?_ (yc9 true 42 55 true hz (by decide) (by kernel_rfl) rfl rfl (fun hG _ _ s=>yaP (ts:=#[3]) (x:=.tmp 58) (f:=74) yuL (by kernel_rfl) rfl (s.g 45 58 (by kernel_rfl) hG rfl)) q59)
 refine us ?_ (yaM true 42 55 true hz (by decide) (by kernel_rfl) rfl rfl fun hG _ W s hS=>yaf (x:=.tmp 57) (t:=3) (by kernel_rfl) (s.g 44 57 (by kernel_rfl) hG rfl) (ld3 W _ 5 _ (hcell W hS 5 _ rfl)))
 refine us ?_ (yaM true 42 55 true hz (by decide) (by kernel_rfl) rfl rfl fun _ _ W s _=>yad (x:=.tmp 1) (t:=31) (f:=5) (by kernel_rfl) (s.b 1 (by kernel_rfl) h1) (fa5 W _))
 refine us ?_ (yaM true 42 55 true hz (by decide) (by kernel_rfl) rfl rfl fun _ _ _ s _=>yac (x:=.tmp 5) (by kernel_rfl) (s.b 5 (by kernel_rfl) h5))
 refine us ?_ (ya1 hz (by decide) (by kernel_rfl) fun _ _ s _=>yac (x:=.tmp 54) (by kernel_rfl) (s.u 41 54 (by kernel_rfl)))
 refine us ?_ (ya1 hz (by decide) (by kernel_rfl) fun _ _ s _=>yav (G:=true) (by kernel_rfl) (s.u 31 44 (by kernel_rfl)) (s.u 40 53 (by kernel_rfl)) rfl rfl)
 refine us ?_ (yc9 true 31 44 true hz (by decide) (by kernel_rfl) rfl rfl (fun hG _ _ s=>yea (ts:=#[3,4,4]) (t:=.tmp 45) (x:=.const (.int .i64 8)) (y:=.tmp 48) (z:=.tmp 52) (f:=71) yke (by kernel_rfl) (s.g 32 45 (by kernel_rfl) hG rfl) (rfl) (s.g 35 48 (by kernel_rfl) hG rfl) (s.g 39 52 (by kernel_rfl) hG rfl)) (qis _ _ _))
 refine us ?_ (yaM true 31 44 true hz (by decide) (by kernel_rfl) rfl rfl fun hG _ W s _=>yaq (u:=3) (x:=.tmp 51) (y:=.const (.int .i64 0)) (by kernel_rfl) (s.g 38 51 (by kernel_rfl) hG rfl) (rfl) (yee W _ _ _ _))
 refine us ?_ (yaM true 31 44 true hz (by decide) (by kernel_rfl) rfl rfl fun hG _ W s _=>ycz (ts:=#[22]) (x:=.tmp 50) (by kernel_rfl) (fun ty=>yoc W a1 c.cols.length c1 ty) (s.g 37 50 (by kernel_rfl) hG rfl))
 refine us ?_ (yaM true 31 44 true hz (by decide) (by kernel_rfl) rfl rfl fun hG _ W s hS=>yaf (x:=.tmp 49) (t:=22) (by kernel_rfl) (s.g 36 49 (by kernel_rfl) hG rfl) (yqt W _ 4 _ (hcell W hS 4 _ rfl)))
 refine us ?_ (yaM true 31 44 true hz (by decide) (by kernel_rfl) rfl rfl fun _ _ W s _=>yad (x:=.tmp 1) (t:=31) (f:=4) (by kernel_rfl) (s.b 1 (by kernel_rfl) h1) (fa4 W _))
 refine us ?_ (yc9 true 31 44 true hz (by decide) (by kernel_rfl) rfl rfl (fun hG _ _ s=>yaP (ts:=#[22]) (x:=.tmp 47) (f:=73) yuK (by kernel_rfl) rfl (s.g 34 47 (by kernel_rfl) hG rfl)) q48)
 refine us ?_ (yaM true 31 44 true hz (by decide) (by kernel_rfl) rfl rfl fun hG _ W s hS=>yaf (x:=.tmp 46) (t:=22) (by kernel_rfl) (s.g 33 46 (by kernel_rfl) hG rfl) (yqt W _ 4 _ (hcell W hS 4 _ rfl)))
 refine us ?_ (yaM true 31 44 true hz (by decide) (by kernel_rfl) rfl rfl fun _ _ W s _=>yad (x:=.tmp 1) (t:=31) (f:=4) (by kernel_rfl) (s.b 1 (by kernel_rfl) h1) (fa4 W _))
 refine us ?_ (yaM true 31 44 true hz (by decide) (by kernel_rfl) rfl rfl fun _ _ _ s _=>yac (x:=.tmp 5) (by kernel_rfl) (s.b 5 (by kernel_rfl) h5))
 refine us ?_ (ya1 hz (by decide) (by kernel_rfl) fun _ _ s _=>yac (x:=.tmp 43) (by kernel_rfl) (s.u 30 43 (by kernel_rfl)))
 refine us ?_ (ya1 hz (by decide) (by kernel_rfl) fun _ _ s _=>yav (G:=true) (by kernel_rfl) (s.u 21 34 (by kernel_rfl)) (s.u 29 42 (by kernel_rfl)) rfl rfl)
 refine us ?_ (yc9 true 21 34 true hz (by decide) (by kernel_rfl) rfl rfl (fun hG _ _ s=>yea (ts:=#[3,4,4]) (t:=.tmp 35) (x:=.const (.int .i64 4)) (y:=.tmp 38) (z:=.tmp 41) (f:=71) yke (by kernel_rfl) (s.g 22 35 (by kernel_rfl) hG rfl) (rfl) (s.g 25 38 (by kernel_rfl) hG rfl) (s.g 28 41 (by kernel_rfl) hG rfl)) (qis _ _ _))
 refine us ?_ (yaM true 21 34 true hz (by decide) (by kernel_rfl) rfl rfl fun hG _ W s _=>yaq (u:=9) (x:=.tmp 40) (y:=.const (.string ⟨#[]⟩)) (by kernel_rfl) (s.g 27 40 (by kernel_rfl) hG rfl) (rfl) (eq9 W _ _ _))
 refine us ?_ (yaM true 21 34 true hz (by decide) (by kernel_rfl) rfl rfl fun hG _ W s hS=>yaf (x:=.tmp 39) (t:=9) (by kernel_rfl) (s.g 26 39 (by kernel_rfl) hG rfl) (ld9 W _ 3 _ (hcell W hS 3 _ rfl)))
 refine us ?_ (yaM true 21 34 true hz (by decide) (by kernel_rfl) rfl rfl fun _ _ W s _=>yad (x:=.tmp 1) (t:=31) (f:=3) (by kernel_rfl) (s.b 1 (by kernel_rfl) h1) (fa3 W _))
 refine us ?_ (yc9 true 21 34 true hz (by decide) (by kernel_rfl) rfl rfl (fun hG _ _ s=>yaP (ts:=#[9]) (x:=.tmp 37) (f:=72) ys4 (by kernel_rfl) rfl (s.g 24 37 (by kernel_rfl) hG rfl)) q38)
 refine us ?_ (yaM true 21 34 true hz (by decide) (by kernel_rfl) rfl rfl fun hG _ W s hS=>yaf (x:=.tmp 36) (t:=9) (by kernel_rfl) (s.g 23 36 (by kernel_rfl) hG rfl) (ld9 W _ 3 _ (hcell W hS 3 _ rfl)))
 refine us ?_ (yaM true 21 34 true hz (by decide) (by kernel_rfl) rfl rfl fun _ _ W s _=>yad (x:=.tmp 1) (t:=31) (f:=3) (by kernel_rfl) (s.b 1 (by kernel_rfl) h1) (fa3 W _))
 refine us ?_ (yaM true 21 34 true hz (by decide) (by kernel_rfl) rfl rfl fun _ _ _ s _=>yac (x:=.tmp 5) (by kernel_rfl) (s.b 5 (by kernel_rfl) h5))
 refine us ?_ (ya1 hz (by decide) (by kernel_rfl) fun _ _ s _=>yac (x:=.tmp 33) (by kernel_rfl) (s.u 20 33 (by kernel_rfl)))
 refine us ?_ (ya1 hz (by decide) (by kernel_rfl) fun _ _ s _=>yav (G:=true) (by kernel_rfl) (s.u 11 24 (by kernel_rfl)) (s.u 19 32 (by kernel_rfl)) rfl rfl)
 refine us ?_ (yc9 true 11 24 true hz (by decide) (by kernel_rfl) rfl rfl (fun hG _ _ s=>yea (ts:=#[3,4,4]) (t:=.tmp 25) (x:=.const (.int .i64 2)) (y:=.tmp 28) (z:=.tmp 31) (f:=71) yke (by kernel_rfl) (s.g 12 25 (by kernel_rfl) hG rfl) (rfl) (s.g 15 28 (by kernel_rfl) hG rfl) (s.g 18 31 (by kernel_rfl) hG rfl)) (qis _ _ _))
 refine us ?_ (yaM true 11 24 true hz (by decide) (by kernel_rfl) rfl rfl fun hG _ W s _=>yaq (u:=9) (x:=.tmp 30) (y:=.const (.string ⟨#[]⟩)) (by kernel_rfl) (s.g 17 30 (by kernel_rfl) hG rfl) (rfl) (eq9 W _ _ _))
 refine us ?_ (yaM true 11 24 true hz (by decide) (by kernel_rfl) rfl rfl fun hG _ W s hS=>yaf (x:=.tmp 29) (t:=9) (by kernel_rfl) (s.g 16 29 (by kernel_rfl) hG rfl) (ld9 W _ 2 _ (hcell W hS 2 _ rfl)))
 refine us ?_ (yaM true 11 24 true hz (by decide) (by kernel_rfl) rfl rfl fun _ _ W s _=>yad (x:=.tmp 1) (t:=31) (f:=2) (by kernel_rfl) (s.b 1 (by kernel_rfl) h1) (fa2 W _))
 refine us ?_ (yc9 true 11 24 true hz (by decide) (by kernel_rfl) rfl rfl (fun hG _ _ s=>yaP (ts:=#[9]) (x:=.tmp 27) (f:=72) ys4 (by kernel_rfl) rfl (s.g 14 27 (by kernel_rfl) hG rfl)) q28)
 refine us ?_ (yaM true 11 24 true hz (by decide) (by kernel_rfl) rfl rfl fun hG _ W s hS=>yaf (x:=.tmp 26) (t:=9) (by kernel_rfl) (s.g 13 26 (by kernel_rfl) hG rfl) (ld9 W _ 2 _ (hcell W hS 2 _ rfl)))
 refine us ?_ (yaM true 11 24 true hz (by decide) (by kernel_rfl) rfl rfl fun _ _ W s _=>yad (x:=.tmp 1) (t:=31) (f:=2) (by kernel_rfl) (s.b 1 (by kernel_rfl) h1) (fa2 W _))
 refine us ?_ (yaM true 11 24 true hz (by decide) (by kernel_rfl) rfl rfl fun _ _ _ s _=>yac (x:=.tmp 5) (by kernel_rfl) (s.b 5 (by kernel_rfl) h5))
 refine us ?_ (ya1 hz (by decide) (by kernel_rfl) fun _ _ s _=>yac (x:=.tmp 23) (by kernel_rfl) (s.u 10 23 (by kernel_rfl)))
 refine us ?_ (ya1 hz (by decide) (by kernel_rfl) fun _ _ s _=>yav (G:=true) (by kernel_rfl) (s.u 1 14 (by kernel_rfl)) (s.u 9 22 (by kernel_rfl)) rfl rfl)
 refine us ?_ (yc9 true 1 14 true hz (by decide) (by kernel_rfl) rfl rfl (fun hG _ _ s=>yea (ts:=#[3,4,4]) (t:=.tmp 15) (x:=.const (.int .i64 1)) (y:=.tmp 18) (z:=.tmp 21) (f:=71) yke (by kernel_rfl) (s.g 2 15 (by kernel_rfl) hG rfl) (rfl) (s.g 5 18 (by kernel_rfl) hG rfl) (s.g 8 21 (by kernel_rfl) hG rfl)) (qis _ _ _))
 refine us ?_ (yaM true 1 14 true hz (by decide) (by kernel_rfl) rfl rfl fun hG _ W s _=>yaq (u:=9) (x:=.tmp 20) (y:=.const (.string ⟨#[]⟩)) (by kernel_rfl) (s.g 7 20 (by kernel_rfl) hG rfl) (rfl) (eq9 W _ _ _))
 refine us ?_ (yaM true 1 14 true hz (by decide) (by kernel_rfl) rfl rfl fun hG _ W s hS=>yaf (x:=.tmp 19) (t:=9) (by kernel_rfl) (s.g 6 19 (by kernel_rfl) hG rfl) (ld9 W _ 1 _ (hcell W hS 1 _ rfl)))
 refine us ?_ (yaM true 1 14 true hz (by decide) (by kernel_rfl) rfl rfl fun _ _ W s _=>yad (x:=.tmp 1) (t:=31) (f:=1) (by kernel_rfl) (s.b 1 (by kernel_rfl) h1) (fa1 W _))
 refine us ?_ (yc9 true 1 14 true hz (by decide) (by kernel_rfl) rfl rfl (fun hG _ _ s=>yaP (ts:=#[9]) (x:=.tmp 17) (f:=72) ys4 (by kernel_rfl) rfl (s.g 4 17 (by kernel_rfl) hG rfl)) q18)
 refine us ?_ (yaM true 1 14 true hz (by decide) (by kernel_rfl) rfl rfl fun hG _ W s hS=>yaf (x:=.tmp 16) (t:=9) (by kernel_rfl) (s.g 3 16 (by kernel_rfl) hG rfl) (ld9 W _ 1 _ (hcell W hS 1 _ rfl)))
 refine us ?_ (yaM true 1 14 true hz (by decide) (by kernel_rfl) rfl rfl fun _ _ W s _=>yad (x:=.tmp 1) (t:=31) (f:=1) (by kernel_rfl) (s.b 1 (by kernel_rfl) h1) (fa1 W _))
 refine us ?_ (yaM true 1 14 true hz (by decide) (by kernel_rfl) rfl rfl fun _ _ _ s _=>yac (x:=.tmp 5) (by kernel_rfl) (s.b 5 (by kernel_rfl) h5))
 refine us ?_ (ya1 hz (by decide) (by kernel_rfl) fun _ _ s _=>yac (x:=.tmp 13) (by kernel_rfl) (s.u 0 13 (by kernel_rfl)))
 refine us ?_ (ya1 hz (by decide) (by kernel_rfl) fun _ _ s _=>yac (x:=.tmp 4) (by kernel_rfl) (s.b 4 (by kernel_rfl) h4))
 exact fun j hj=>absurd hj (Nat.not_lt_zero j)
theorem Held.drew {w:World} {c:Cm} {cv vv fv ea wa:Value} {m:Int} {W:World} (h:Held w c cv vv fv ea wa m W):Held w c cv vv fv ea wa m W.drew:=⟨h.1,h.2.1,h.2.2.1.drew,h.2.2.2⟩
theorem ydY {B:Nat} {w:World} {u:Value} {n:Nat} {xs:List Value} (h:RowAt B w u n xs):∃ ao ca,u=.slice ao n ca:=by
 rcases h with ⟨rfl,ao,ca,h⟩|⟨b,off,cap,h,-⟩
 ·exact ⟨ao,ca,h⟩
 ·exact ⟨_,_,h⟩
theorem ymf (c:Cm):ydE c=ycI c (ycH c.kind:Nat) (yfS c.kind):=by
 have d4:decide (((c.cols.length:Nat):Int)=0)=decide (c.cols.length=0):=by rw [decide_eq_decide];omega
 have d7:decide (((c.vals.length:Nat):Int)=0)=decide (c.vals.length=0):=by rw [decide_eq_decide];omega
 have d8:decide (((c.fields.length:Nat):Int)=0)=decide (c.fields.length=0):=by rw [decide_eq_decide];omega
 have d12:(decide (-1≤c.limit)&&decide (c.limit≤999999999))=decide (-1≤c.limit∧c.limit≤999999999):=by rw [Bool.decide_and]
 simp only [ydE,ybU,ybV,ybO,ybW,ybP,ybQ,ybR,ybX,ya9,ybf,ybg,ycI,Xs,d4,d7,d8,d12,yiL,Bool.and_assoc]
theorem yfq {w:World} (c:Cm) (cv vv fv ea wa:Value) (m:Int) (kd:Bool) (hnb:∀ W,Calls Tryz.prog 70 #[.int .i64 c.kind] W fun e w'=>e=.returned (.tuple #[.int .i64 m,.bool kd])∧w'=W) (hi:CmIn 0 w c cv vv fv ea wa) (hf:CmFit c) {EP:Prop} (hl:LaidIf EP w) :
  Calls Tryz.prog 29 #[.agg (cmL c cv vv fv ea wa).toArray] w fun e w'=>e=.returned (.bool (ycI c m kd))∧Below w.heap.size w w':=by
 obtain ⟨a1,c1,rfl⟩:=ydY hi.cols
 obtain ⟨a2,c2,rfl⟩:=ydY hi.vals
 obtain ⟨a3,c3,rfl⟩:=ydY hi.fields
 have H0:=yaa (Held.start w c (.slice a1 c.cols.length c1) (.slice a2 c.vals.length c2) (.slice a3 c.fields.length c3) ea wa m)
 have up:∀ W,(Held w c (.slice a1 c.cols.length c1) (.slice a2 c.vals.length c2) (.slice a3 c.fields.length c3) ea wa m) W→CmIn 0 W c (.slice a1 c.cols.length c1) (.slice a2 c.vals.length c2) (.slice a3 c.fields.length c3) ea wa∧LaidIf EP W:=fun W h=>⟨hi.keep h.2.2.1.size fun b _ hb=>h.2.2.1.block b hb,hl.below h.2.2.1⟩
 have nn:∀ (x:Ex) (a:Value) (W:World),ExAt 0 W (exV x.k x.v x.nm a) x→Calls Tryz.prog 79 #[exV x.k x.v x.nm a] W fun e w'=>e=.returned (.bool (ybe x))∧Below W.heap.size W w':=by
  intro x a W h
  obtain ⟨ao,ca,e⟩:=h.len
  rw [e]
  exact yfp x ao ca W
 have lift:∀ {f:FuncId} {args:Array Value} {v:Value},(∀ W,(Held w c (.slice a1 c.cols.length c1) (.slice a2 c.vals.length c2) (.slice a3 c.fields.length c3) ea wa m) W→Calls Tryz.prog f args W fun e w'=>e=.returned v∧Below W.heap.size W w')→Hid (∀ W,(Held w c (.slice a1 c.cols.length c1) (.slice a2 c.vals.length c2) (.slice a3 c.fields.length c3) ea wa m) W→Calls Tryz.prog f args W fun e w'=>e=.returned v∧(Held w c (.slice a1 c.cols.length c1) (.slice a2 c.vals.length c2) (.slice a3 c.fields.length c3) ea wa m) w') :=
  fun h=>yaa fun W hW=>(h W hW).mono fun e w' q=>⟨q.1,hW.below q.2⟩
 have r1:=lift fun W h=>yds _ hf.name (up W h).2
 have r2:=lift fun W h=>yds _ hf.other (up W h).2
 have r3:=lift fun W h=>yds _ hf.column (up W h).2
 have r4:=lift fun W h=>ym2 _ W (up W h).1.cols hf.cols hf.colsN (up W h).2
 have r5:=lift fun W _=>yfr c.ty W
 have r6:=lift fun W _=>ydk c.val W hf.val
 have r7:=lift fun W h=>yoT _ W (up W h).1.vals hf.vals hf.valsN
 have r8:=lift fun W h=>yjc c _ (up W h).1.fields hf.fields hf.fieldsN (up W h).2
 have r9:=lift fun W h=>yfn (up W h).1.expr hf.expr W (Below.refl _ _) (up W h).2
 have n9:=lift fun W h=>nn _ _ W (up W h).1.expr
 have r10:=lift fun W h=>yhG c.all (up W h).1.wh hf.wh (up W h).2
 have n10:=lift fun W h=>nn _ _ W (up W h).1.wh
 have r11:=lift fun W h=>yds _ hf.order (up W h).2
 have ri:=yaa (show ∀ (o:Int) (r e:Bool) W,(Held w c (.slice a1 c.cols.length c1) (.slice a2 c.vals.length c2) (.slice a3 c.fields.length c3) ea wa m) W→Calls Tryz.prog 71 #[.int .i64 o,.bool r,.bool e,.pointer (some ⟨w.heap.size+1,0,none⟩)] W fun x w'=>x=.returned (.bool (Xs m o r e))∧(Held w c (.slice a1 c.cols.length c1) (.slice a2 c.vals.length c2) (.slice a3 c.fields.length c3) ea wa m) w' from
  fun o r e W h=>(yrZ m o r e _ W h.2.1).mono fun x w' q=>⟨q.1,by rw [q.2];exact h⟩)
 have d0:(w.alloc (.cells (cmL c (.slice a1 c.cols.length c1) (.slice a2 c.vals.length c2) (.slice a3 c.fields.length c3) ea wa).toArray 31)).cell? ⟨w.heap.size,0,none⟩=some (.int .i64 c.kind):=by
  rw [Lib.cell_of_heap (heap_alloc_new w _)];rfl
 clear hi hf hl up nn lift
 go_enter Tryz.func29,Tryz.ntmps29
 go_wp2_with fail
 refine (hnb _).mono ?_
 rintro e w' ⟨rfl,hw'⟩
 obtain rfl:=hw'.symm
 clear hw' hnb d0
 go_wp2_with fail
 refine yaT ris_R (by kernel_rfl) ?_
 refine ysK (c:=c) (a1:=a1) (a2:=a2) (a3:=a3) (c1:=c1) (c2:=c2) (c3:=c3) (ea:=ea) (wa:=wa) (m:=m) (kd:=kd) (b:=w.heap.size) (S:=(Held w c (.slice a1 c.cols.length c1) (.slice a2 c.vals.length c2) (.slice a3 c.fields.length c3) ea wa m)) rfl rfl rfl (fun W h=>h.1) ri.out r1.out r2.out r3.out r4.out r5.out r6.out r7.out r8.out r9.out n9.out r10.out n10.out r11.out rfl H0.out.drew ?_
 intro w' hS
 refine ‹∀ (a:Act) (w:World),Code.wp _ _ _ a w→_› _ _ ?_
 refine wp_ret ?_
 exact ybv 142 rfl ygO rfl rfl (by simp) ⟨rfl,hS.2.2.1⟩
theorem yiI (c:Cm) (m:Int):ycI c m false=false:=by simp only [ybU,ybV,ybO,ybW,ybP,ybQ,ybR,ybX,ya9,ybf,ybg,ycI,Bool.false_and]
theorem yhD {w:World} (c:Cm) (cv vv fv ea wa:Value) (hi:CmIn 0 w c cv vv fv ea wa) (hf:CmFit c) {EP:Prop} (hl:LaidIf EP w) :
  Calls Tryz.prog 29 #[.agg (cmL c cv vv fv ea wa).toArray] w fun e w'=>e=.returned (.bool (ydE c))∧Below w.heap.size w w':=by
 rw [ymf]
 by_cases hk:1≤c.kind∧c.kind≤16
 ·have e0:yfS c.kind=true:=by rw [yfS,decide_eq_true hk]
  rw [e0]
  refine yfq c cv vv fv ea wa _ true (fun W=>?_) hi hf hl
  have e:((c.kind.toNat:Nat):Int)=c.kind:=by omega
  have:=yjE W c.kind.toNat (by omega) (by omega)
  rwa [e] at this
 ·have e0:yfS c.kind=false:=by rw [yfS,decide_eq_false hk]
  rw [e0,yiI,← yiI c 0]
  exact yfq c cv vv fv ea wa 0 false (fun W=>yhI W c.kind hk) hi hf hl
theorem yko {w:World} {x:Ex} {a:Value} (h:ExAt 0 w (exV x.k x.v x.nm a) x):∃ ao ca,a=.slice ao x.args.length ca:=by
 obtain ⟨ao,ca,ps,e,-⟩:=h.pairs
 exact ⟨ao,ca,e⟩
theorem yog {w:World} (c:Cm) (cv vv fv ea wa:Value) (hi:CmIn 0 w c cv vv fv ea wa) (hf:CmFit c) :
  Calls Tryz.prog 28 #[.agg (cmL c cv vv fv ea wa).toArray] w fun e w'=>e=.returned (.bool (yaN c))∧Below w.heap.size w w':=by
 obtain ⟨a1,c1,rfl⟩:=ydY hi.cols
 obtain ⟨a2,c2,rfl⟩:=ydY hi.vals
 obtain ⟨a3,c3,rfl⟩:=ydY hi.fields
 obtain ⟨a4,c4,rfl⟩:=yko hi.expr
 obtain ⟨a5,c5,rfl⟩:=yko hi.wh
 exact yhv c a1 a2 a3 a4 a5 c1 c2 c3 c4 c5 hi.expr hi.wh hf.expr hf.wh
theorem yku {w:World} (c:Cm) (cv vv fv ea wa:Value) (hi:CmIn 0 w c cv vv fv ea wa) (hf:CmFit c) {EP:Prop} (hl:LaidIf EP w) :
  Calls Tryz.prog 12 #[.agg (cmL c cv vv fv ea wa).toArray] w fun e w'=>e=.returned (.int .i64 (ybH (yaN c) (ydE c)))∧Below w.heap.size w w':=by
 have up:∀ W,Below w.heap.size w W→CmIn 0 W c cv vv fv ea wa∧LaidIf EP W:=fun W h=>⟨hi.keep h.size fun b _ hb=>h.block b hb,hl.below h⟩
 exact yiY c cv vv fv ea wa (yaN c) (ydE c) (fun W h=>yog c cv vv fv ea wa (up W h).1 hf) (fun W h=>yhD c cv vv fv ea wa (up W h).1 hf (up W h).2)
theorem ykv {w:World} (c:Cm) (cv vv fv ea wa:Value) (hi:CmIn 0 w c cv vv fv ea wa) (hf:CmFit c) {EP:Prop} (hl:LaidIf EP w) :
  Calls Tryz.prog 12 #[.agg (cmL c cv vv fv ea wa).toArray] w fun e w'=>e=.returned (.int .i64 (ybH (yaN c) (ybF c)))∧Below w.heap.size w w':=by
 rw [← yjO]
 exact yku c cv vv fv ea wa hi hf hl
theorem yh9 {p:Tk→Prop} (hp:∀ (a:Nat) (c:UInt8) (r:List UInt8),yay (ya2 (c::r)).1 ((c::r).take (ya2 (c::r)).2)=0→p ⟨((ya2 (c::r)).1:Nat),(a:Nat),(c::r).take (ya2 (c::r)).2⟩) (f:Nat) :
  ∀ (a:Nat) (l:List UInt8) (acc:List Tk),(∀ x ∈ acc,p x)→∀ x ∈ (ybC f a l acc).1,p x:=by
 induction f with
 | zero=>intro a l acc h;exact h
 | succ f ih =>
  intro a l acc h
  cases l with
  | nil=>exact h
  | cons c r =>
   rw [ybC]
   split
   ·exact ih _ _ _ h
   ·split
    ·rename_i hw
     apply ih
     intro x hx
     rcases List.mem_append.1 hx with hx|hx
     ·exact h x hx
     ·rw [List.mem_singleton] at hx
      rw [hx]
      exact hp a c r hw
    ·intro x hx;cases hx
theorem yfD {p:Tk→Prop} (hp:∀ (a:Nat) (c:UInt8) (r:List UInt8),yay (ya2 (c::r)).1 ((c::r).take (ya2 (c::r)).2)=0→p ⟨((ya2 (c::r)).1:Nat),(a:Nat),(c::r).take (ya2 (c::r)).2⟩) (s:List UInt8):∀ x ∈ (yaU s).1,p x:=by
 unfold yaU
 split
 ·intro x hx;cases hx
 ·exact yh9 hp _ _ _ _ (by intro x hx;cases hx)
theorem yjV (f:Nat):∀ (a:Nat) (l:List UInt8) (acc:List Tk),(ybC f a l acc).1.length≤acc.length+l.length:=by
 induction f with
 | zero=>intro a l acc;simp [ybC]
 | succ f ih =>
  intro a l acc
  cases l with
  | nil=>simp [ybC]
  | cons c r =>
   rw [ybC]
   split
   ·have:=ih (a+1) r acc
    simp only [List.length_cons];omega
   ·split
    ·rename_i hw
     have hz:=ycK c r (ybZ hw)
     have:=ih (a+(ya2 (c::r)).2) ((c::r).drop (ya2 (c::r)).2) (acc++[⟨((ya2 (c::r)).1:Nat),(a:Nat),(c::r).take (ya2 (c::r)).2⟩])
     simp only [List.length_append,List.length_drop,List.length_cons,List.length_nil] at this ⊢
     omega
    ·simp
theorem ygW (s:List UInt8):(yaU s).1.length≤2000:=by
 unfold yaU
 split
 ·simp
 ·have:=yjV (s.length+1) 0 s []
  simp only [List.length_nil] at this
  unfold ya4
  omega
theorem ymi (p:UInt8→Bool) (l:List UInt8):∀ c ∈ l.take (ycv p l),p c=true:=by
 induction l with
 | nil=>intro c hc;simp [ycv] at hc
 | cons d r ih =>
  intro c hc
  rw [ybS] at hc
  split at hc
  ·rename_i hd
   rw [List.take_succ_cons] at hc
   rcases List.mem_cons.1 hc with e|e
   ·rw [e];exact hd
   ·exact ih c e
  ·simp at hc
theorem yoR (c:UInt8) (r:List UInt8) (h:(ya2 (c::r)).1=2):isD c=true∧ya2 (c::r)=(2,ycv isD r+1):=by
 revert h
 rw [ya2]
 repeat' split
 all_goals simp_all
theorem yj8 (c:UInt8) (r:List UInt8) (h:(ya2 (c::r)).1=3):c=39∧ya2 (c::r)=(3,ycv isQ r+2)∧r[ycv isQ r]?=some 39:=by
 revert h
 rw [ya2]
 repeat' split
 all_goals simp_all
theorem yfE (s:List UInt8):∀ x ∈ (yaU s).1,TokOk x:=by
 have hs:∀ x ∈ (yaU s).1,x.t.length≤22:=by
  unfold yaU
  split
  ·intro y hy;cases hy
  ·exact yfC _ _ _ _ (by intro y hy;cases hy)
 have hr:∀ x ∈ (yaU s).1,(x.k=2→x.t≠[]∧x.t.length≤9∧∀ c ∈ x.t,isD c=true)∧(x.k=3→2≤x.t.length):=by
  refine yfD (fun a c r hw=>⟨fun h2=>?_,fun h3=>?_⟩) s
  ·have h2':(ya2 (c::r)).1=2:=by simp only at h2;omega
   obtain ⟨hd,ht⟩:=yoR c r h2'
   rw [ht] at hw ⊢
   simp only [List.take_succ_cons] at hw ⊢
   refine ⟨by simp, ?_, ?_⟩
   ·apply Classical.byContradiction
    intro hn
    rw [yay,if_neg (by decide),if_pos (by right;left;exact ⟨rfl,by omega⟩)] at hw
    cases hw
   ·intro d hdm
    rcases List.mem_cons.1 hdm with e|e
    ·rw [e];exact hd
    ·exact ymi isD r d e
  ·have h3':(ya2 (c::r)).1=3:=by simp only at h3;omega
   obtain ⟨-,ht,hq⟩:=yj8 c r h3'
   rw [ht]
   have:=(List.getElem?_eq_some_iff.1 hq).1
   simp only [List.length_take,List.length_cons]
   omega
 exact fun x hx=>⟨hs x hx,(hr x hx).1,(hr x hx).2⟩
def ydw (p:UInt8→Bool) (s:List UInt8):Bool:=match s with|[]=>false|c::_=>p c
structure TokIs (x:Tk):Prop where
 num:x.k=2↔ydw isD x.t=true
 txt:x.k=3↔ydw (fun c=>decide (c=39)) x.t=true
def yez (s:List UInt8):Bool:=decide (s=ycD) || decide (s=yce) || decide (s=w_null) || decide (s=[45]) || ydw (fun c=>isD c || decide (c=39)) s
theorem yqZ {T:List Tk} {i:Nat} (h:tx T i≠[]):∃ x,T[i]?=some x∧tx T i=x.t∧kd T i=x.k:=by
 unfold tx at h
 cases e:T[i]? with
 | none=>rw [e] at h;exact absurd rfl h
 | some x=>exact ⟨x,rfl,by simp [tx,e],by simp [kd,e]⟩
theorem yqp {c:UInt8} (h:isL c=true):isD c=false∧c≠39:=by
 simp only [isL,isD,Bool.and_eq_true,decide_eq_true_eq] at *
 refine ⟨?_, ?_⟩
 ·rw [Bool.and_eq_false_iff,decide_eq_false_iff_not,decide_eq_false_iff_not];omega
 ·intro e;subst e;simp at h
theorem yqX (c:UInt8) (r:List UInt8) (hz:(ya2 (c::r)).1≠0):((ya2 (c::r)).1=2↔isD c=true)∧((ya2 (c::r)).1=3↔c=39):=by
 revert hz
 rw [ya2]
 by_cases h1:isL c=true
 ·have:=yqp h1
  simp [h1,this.1,this.2]
 ·by_cases h2:isD c=true
  ·have:c≠39:=by intro e;subst e;simp [isD] at h2
   simp [h1,h2,this]
  ·by_cases h3:c=39
   ·subst h3
    have:isD 39=false:=by decide
    rw [if_neg h1,if_neg h2,if_pos rfl]
    split <;> simp [this]
   ·rw [if_neg h1,if_neg h2,if_neg h3]
    split
    ·simp [h2,h3]
    ·split <;> simp [h2,h3]
theorem yjY (s:List UInt8):∀ x ∈ (yaU s).1,TokIs x:=by
 refine yfD (fun a c r hw=>?_) s
 have hz:=ybZ hw
 have hp:=ycK c r hz
 obtain ⟨h2,h3⟩:=yqX c r hz
 obtain ⟨n,hn⟩:∃ n,(ya2 (c::r)).2=n+1:=⟨(ya2 (c::r)).2 - 1,by omega⟩
 rw [hn,List.take_succ_cons]
 refine ⟨?_, ?_⟩
 ·show (((ya2 (c::r)).1:Nat):Int)=2↔isD c=true
  rw [← h2];omega
 ·show (((ya2 (c::r)).1:Nat):Int)=3↔decide (c=39)=true
  rw [decide_eq_true_eq,← h3];omega
abbrev Sx:=Nat×Bool
def txS (T:List Tk) (s:Sx):List UInt8:=if s.2=true then [] else tx T s.1
def ybm (T:List Tk) (w:List UInt8) (s:Sx):Bool×Sx:=if s.2=false∧tx T s.1=w then (true,(s.1+1,false)) else (false,s)
def ycl (T:List Tk) (w:List UInt8) (s:Sx):Unit×Sx:=if (ybm T w s).1=true then ((),(ybm T w s).2) else ((),(s.1,true))
def ydm (T:List Tk) (s:Sx):List UInt8×Sx:=if yan (txS T s)=true then (txS T s,(s.1+1,s.2)) else ([],(s.1,true))
def ya8 (T:List Tk) (s:Sx):Nat×Sx:=if ydw isD (txS T s)=true then (yi1 (txS T s),(s.1+1,s.2)) else (0,(s.1,true))
def ypd (T:List Tk) (s:Sx):Vl×Sx:=(⟨1,-((ya8 T (if txS T s=[48] then (s.1,true) else s)).1:Nat),[]⟩,(ya8 T (if txS T s=[48] then (s.1,true) else s)).2)
def ycr (T:List Tk) (s:Sx):Vl×Sx :=
 if yez (txS T s)=false then (vl0,(s.1,true))
 else if txS T s=ycD∨txS T s=yce then (⟨3,if txS T s=ycD then 1 else 0,[]⟩,(s.1+1,s.2))
 else if txS T s=w_null then (vl0,(s.1+1,s.2))
 else if txS T s=[45] then ypd T (s.1+1,s.2)
 else if ydw (fun c=>decide (c=39)) (txS T s)=true then (⟨2,0,((txS T s).drop 1).take ((txS T s).length - 2)⟩,(s.1+1,s.2))
 else (⟨1,((ya8 T s).1:Nat),[]⟩,(ya8 T s).2)
def ybM (w:List UInt8):Nat :=
 if w=ymO then 5 else if w=ysX then 6 else if w=[43] then 7 else if w=[45] then 8 else if w=[124,124] then 9 else if w=[60] then 10 else if w=[61] then 11 else 0
def yhQ (T:List Tk) (s:Sx):Nat×Sx:=if ybM (txS T s)=0 then (0,(s.1,true)) else (ybM (txS T s),(s.1+1,s.2))
def ygc {α β:Type} (f:Sx→α×Sx) (g:α→Sx→β×Sx) (s:Sx):β×Sx:=g (f s).1 (f s).2
def ys8 {α:Type} (a:α) (s:Sx):α×Sx:=(a,s)
def ykF {α:Type} (T:List Tk) (w:List UInt8) (f g:Sx→α×Sx) (s:Sx):α×Sx:=if (ybm T w s).1=true then f (ybm T w s).2 else g s
theorem yoi:yan []=false:=by kernel_rfl
def ybq (T:List Tk):Nat→Sx→Ex×Sx
 | 0,s =>
  if txS T s=[40]∨txS T s=w_not then (ex0,(s.1,true))
  else if yez (txS T s)=true then (.mk 1 (ycr T s).1 [] [],(ycr T s).2) else (.mk 2 vl0 (ydm T s).1 [],(ydm T s).2)
 | f+1,s =>
  if txS T s=w_not then (.mk 3 vl0 [] [(ybq T f (s.1+1,s.2)).1],(ybq T f (s.1+1,s.2)).2)
  else if txS T s=[40] then
   ygc (ybq T f) (fun a=>ykF T w_is (ygc (ycl T w_null) fun _=>ygc (ycl T [41]) fun _=>ys8 (.mk 4 vl0 [] [a]))
    (ygc (yhQ T) fun k=>ygc (ybq T f) fun b=>ygc (ycl T [41]) fun _=>ys8 (.mk (k:Nat) vl0 [] [a,b]))) (s.1+1,s.2)
  else if yez (txS T s)=true then (.mk 1 (ycr T s).1 [] [],(ycr T s).2) else (.mk 2 vl0 (ydm T s).1 [],(ydm T s).2)
theorem yqq:yez []=false:=by decide
def yfK (T:List Tk) (c:Cm):Sx→Cm×Sx:=ykF T w_where (ygc (ybq T 60) fun e=>ys8 { c with all:=false,wh:=e }) (ys8 { c with all:=true })
theorem ybK (n a b:Int) (w:World) :
  Calls Tryz.prog 31 #[.int .i64 n,.int .i64 a,.int .i64 b] w fun e w'=>e=.returned (.bool (decide (a≤n)&&decide (n≤b)))∧w'=w:=by
 go_enter Tryz.func31,Tryz.ntmps31
 go_wp2
 all_goals go_ret
 all_goals exact ⟨yaw (by simp [*] <;> omega),rfl⟩
theorem yot (c:UInt8) (w:World) :
  Calls Tryz.prog 113 #[.int .u8 (c.toNat:Int)] w fun e w'=>e=.returned (.bool (isL c))∧w'=w:=by
 have hc:(c.toNat:Int)≤255:=by have:=c.toNat_lt;omega
 go_enter Tryz.func113,Tryz.ntmps113
 go_wp2_with (go_at_call 31;refine (ybK _ _ _ _).mono ?_;rintro e w' ⟨rfl,rfl⟩)
 go_ret
 exact ⟨yaw (by rfl),rfl⟩
theorem yiD (c:UInt8) (w:World) :
  Calls Tryz.prog 114 #[.int .u8 (c.toNat:Int)] w fun e w'=>e=.returned (.bool (isD c))∧w'=w:=by
 have hc:(c.toNat:Int)≤255:=by have:=c.toNat_lt;omega
 go_enter Tryz.func114,Tryz.ntmps114
 go_wp2_with (go_at_call 31;refine (ybK _ _ _ _).mono ?_;rintro e w' ⟨rfl,rfl⟩)
 go_ret
 exact ⟨yaw (by rfl),rfl⟩
theorem yiE (c:UInt8) (w:World) :
  Calls Tryz.prog 82 #[.int .u8 (c.toNat:Int)] w fun e w'=>e=.returned (.bool (isQ c))∧w'=w:=by
 have hc:(c.toNat:Int)≤255:=by have:=c.toNat_lt;omega
 cases h:(decide ((32:Int)≤(c.toNat:Int))&&decide ((c.toNat:Int)≤126))
 ·have H:Hid ((decide ((32:Int)≤(c.toNat:Int))&&decide ((c.toNat:Int)≤126))=false):=h
  have hb:=ybK c.toNat 32 126
  rw [h] at hb
  clear h
  go_enter Tryz.func82,Tryz.ntmps82
  go_wp2_with (go_at_call 31;refine (hb _).mono ?_;rintro e w' ⟨rfl,rfl⟩)
  go_ret
  exact ⟨yaw (by unfold isQ;rw [H.out];rfl),rfl⟩
 ·have H:Hid ((decide ((32:Int)≤(c.toNat:Int))&&decide ((c.toNat:Int)≤126))=true):=h
  have hb:=ybK c.toNat 32 126
  rw [h] at hb
  clear h
  go_enter Tryz.func82,Tryz.ntmps82
  go_wp2_with (go_at_call 31;refine (hb _).mono ?_;rintro e w' ⟨rfl,rfl⟩)
  go_ret
  exact ⟨yaw (by unfold isQ;rw [H.out];rfl),rfl⟩
theorem ycd {c:UInt8} {b:Bool} (h:isL c=b) (w:World):Calls Tryz.prog 113 #[.int .u8 (c.toNat:Int)] w fun e w'=>e=.returned (.bool b)∧w'=w:=by
 rw [← h];exact yot c w
theorem ybN {c:UInt8} {b:Bool} (h:isD c=b) (w:World):Calls Tryz.prog 114 #[.int .u8 (c.toNat:Int)] w fun e w'=>e=.returned (.bool b)∧w'=w:=by
 rw [← h];exact yiD c w
theorem yf1 {c:UInt8} {b:Bool} (h:isQ c=b) (w:World):Calls Tryz.prog 82 #[.int .u8 (c.toNat:Int)] w fun e w'=>e=.returned (.bool b)∧w'=w:=by
 rw [← h];exact yiE c w
theorem ypp (s:ByteArray) (a:Nat) (w:World) (hs:s.size≤2000) (ha:a < s.size) (hc:isL s[a]=true) :
  Calls Tryz.prog 58 #[.string s,.int .i64 (a:Int)] w fun e w'=>e=.returned (.tuple #[.int .i64 1,.int .i64 ((yar isW s (a+1) - a:Nat):Int)])∧w'=w:=by
 have h1:=ycd hc
 clear hc
 go_enter Tryz.func58,Tryz.ntmps58
 go_wp2_with (go_at_call 113;refine (h1 _).mono ?_;rintro e w' ⟨rfl,hw'⟩;obtain rfl:=hw'.symm;clear hw')
 clear h1
 go_loop [7] (fun i=>∃ n:Nat,1≤n∧a+n≤s.size∧i=.int .i64 n∧Hid (yar isW s (a+n)=yar isW s (a+1))) (fun i=>s.size - (intOf i).toNat)
 case atStart=>exact ⟨1,by omega,by omega,rfl,rfl⟩
 case round =>
  obtain ⟨n,hn1,hn2,rfl,HE⟩:=hrel
  by_cases hlt:a+n < s.size
  ·cases hL:isL s[a+n]
   ·cases hD:isD s[a+n]
    ·have h1:=ycd hL
     have h2:=ybN hD
     have hend:=ycp isW s (a+n) hlt (by simp [isW,hL,hD])
     rw [HE.out] at hend
     have HG:Hid (yar isW s (a+1)=a+n):=hend
     clear hend HE hL hD
     go_wp2_with (first|(go_at_call 113;refine (h1 _).mono ?_;rintro e w' ⟨rfl,hw'⟩;obtain rfl:=hw'.symm;clear hw')|(go_at_call 114;refine (h2 _).mono ?_;rintro e w' ⟨rfl,hw'⟩;obtain rfl:=hw'.symm;clear hw'))
     go_ret2
     rw [HG.out,Nat.add_sub_cancel_left]
     exact ⟨rfl,rfl⟩
    ·have h1:=ycd hL
     have h2:=ybN hD
     have hend:=ybD isW s (a+n) hlt (by simp [isW,hL,hD])
     rw [HE.out] at hend
     have HG:Hid (yar isW s (a+(n+1))=yar isW s (a+1)):=hend.symm
     clear hend HE hL hD
     go_wp2_with (first|(go_at_call 113;refine (h1 _).mono ?_;rintro e w' ⟨rfl,hw'⟩;obtain rfl:=hw'.symm;clear hw')|(go_at_call 114;refine (h2 _).mono ?_;rintro e w' ⟨rfl,hw'⟩;obtain rfl:=hw'.symm;clear hw'))
     go_round
     case rel=>exact ⟨n+1,by omega,by omega,by go_num,HG⟩
     case measure=>simp [intOf];omega
   ·have h1:=ycd hL
    have hend:=ybD isW s (a+n) hlt (by simp [isW,hL])
    rw [HE.out] at hend
    have HG:Hid (yar isW s (a+(n+1))=yar isW s (a+1)):=hend.symm
    clear hend HE hL
    go_wp2_with (go_at_call 113;refine (h1 _).mono ?_;rintro e w' ⟨rfl,hw'⟩;obtain rfl:=hw'.symm;clear hw')
    go_round
    case rel=>exact ⟨n+1,by omega,by omega,by go_num,HG⟩
    case measure=>simp [intOf];omega
  ·have hend:=yb8 isW s (a+n) hlt
   rw [HE.out] at hend
   have HG:Hid (yar isW s (a+1)=a+n):=hend
   clear hend HE
   go_wp2
   go_ret2
   rw [HG.out,Nat.add_sub_cancel_left]
   exact ⟨rfl,rfl⟩
theorem ykr (s:ByteArray) (a:Nat) (w:World) (hs:s.size≤2000) (ha:a < s.size) (hc:isL s[a]=false) (hd:isD s[a]=true) :
  Calls Tryz.prog 58 #[.string s,.int .i64 (a:Int)] w fun e w'=>e=.returned (.tuple #[.int .i64 2,.int .i64 ((yar isD s (a+1) - a:Nat):Int)])∧w'=w:=by
 have h1:=ycd hc
 have h2:=ybN hd
 clear hc hd
 go_enter Tryz.func58,Tryz.ntmps58
 go_wp2_with (first|(go_at_call 113;refine (h1 _).mono ?_;rintro e w' ⟨rfl,hw'⟩;obtain rfl:=hw'.symm;clear hw')|(go_at_call 114;refine (h2 _).mono ?_;rintro e w' ⟨rfl,hw'⟩;obtain rfl:=hw'.symm;clear hw'))
 clear h1 h2
 go_loop [7] (fun i=>∃ n:Nat,1≤n∧a+n≤s.size∧i=.int .i64 n∧Hid (yar isD s (a+n)=yar isD s (a+1))) (fun i=>s.size - (intOf i).toNat)
 case atStart=>exact ⟨1,by omega,by omega,rfl,rfl⟩
 case round =>
  obtain ⟨n,hn1,hn2,rfl,HE⟩:=hrel
  by_cases hlt:a+n < s.size
  ·cases hD:isD s[a+n]
   ·have h2:=ybN hD
    have hend:=ycp isD s (a+n) hlt hD
    rw [HE.out] at hend
    have HG:Hid (yar isD s (a+1)=a+n):=hend
    clear hend HE hD
    go_wp2_with (go_at_call 114;refine (h2 _).mono ?_;rintro e w' ⟨rfl,hw'⟩;obtain rfl:=hw'.symm;clear hw')
    go_ret2
    rw [HG.out,Nat.add_sub_cancel_left]
    exact ⟨rfl,rfl⟩
   ·have h2:=ybN hD
    have hend:=ybD isD s (a+n) hlt hD
    rw [HE.out] at hend
    have HG:Hid (yar isD s (a+(n+1))=yar isD s (a+1)):=hend.symm
    clear hend HE hD
    go_wp2_with (go_at_call 114;refine (h2 _).mono ?_;rintro e w' ⟨rfl,hw'⟩;obtain rfl:=hw'.symm;clear hw')
    go_round
    case rel=>exact ⟨n+1,by omega,by omega,by go_num,HG⟩
    case measure=>simp [intOf];omega
  ·have hend:=yb8 isD s (a+n) hlt
   rw [HE.out] at hend
   have HG:Hid (yar isD s (a+1)=a+n):=hend
   clear hend HE
   go_wp2
   go_ret2
   rw [HG.out,Nat.add_sub_cancel_left]
   exact ⟨rfl,rfl⟩
theorem ypt (s:ByteArray) (a:Nat) (w:World) (hs:s.size≤2000) (ha:a < s.size) (hc:isL s[a]=false) (hd:isD s[a]=false) (hq:((s[a].toNat:Int) == 39)=true)
  (hyp:∃ h:yar isQ s (a+1) < s.size,((s[yar isQ s (a+1)].toNat:Int) == 39)=true) :
  Calls Tryz.prog 58 #[.string s,.int .i64 (a:Int)] w fun e w'=>e=.returned (.tuple #[.int .i64 3,.int .i64 ((yar isQ s (a+1) - a+1:Nat):Int)])∧w'=w:=by
 have h1:=ycd hc
 have h2:=ybN hd
 have HZ:=yaa hyp
 clear hc hd hyp
 go_enter Tryz.func58,Tryz.ntmps58
 go_wp2_with (first|(go_at_call 113;refine (h1 _).mono ?_;rintro e w' ⟨rfl,hw'⟩;obtain rfl:=hw'.symm;clear hw')|(go_at_call 114;refine (h2 _).mono ?_;rintro e w' ⟨rfl,hw'⟩;obtain rfl:=hw'.symm;clear hw'))
 clear h1 h2
 go_loop [7] (fun i=>∃ n:Nat,1≤n∧a+n≤s.size∧i=.int .i64 n∧Hid (yar isQ s (a+n)=yar isQ s (a+1))) (fun i=>s.size - (intOf i).toNat)
 case atStart=>exact ⟨1,by omega,by omega,rfl,rfl⟩
 case round =>
  obtain ⟨n,hn1,hn2,rfl,HE⟩:=hrel
  by_cases hlt:a+n < s.size
  ·cases hD:isQ s[a+n]
   ·have h2:=yf1 hD
    have hend:=ycp isQ s (a+n) hlt hD
    rw [HE.out] at hend
    have HG:Hid (yar isQ s (a+1)=a+n):=hend
    clear hend HE hD
    have hz:((s[a+n].toNat:Int) == 39)=true:=by obtain ⟨h,hz⟩:=HZ.out;simpa only [HG.out] using hz
    go_wp2_with (go_at_call 82;refine (h2 _).mono ?_;rintro e w' ⟨rfl,hw'⟩;obtain rfl:=hw'.symm;clear hw')
    go_ret2
    rw [HG.out,Nat.add_sub_cancel_left]
    exact ⟨rfl,rfl⟩
   ·have h2:=yf1 hD
    have hend:=ybD isQ s (a+n) hlt hD
    rw [HE.out] at hend
    have HG:Hid (yar isQ s (a+(n+1))=yar isQ s (a+1)):=hend.symm
    clear hend HE hD
    go_wp2_with (go_at_call 82;refine (h2 _).mono ?_;rintro e w' ⟨rfl,hw'⟩;obtain rfl:=hw'.symm;clear hw')
    go_round
    case rel=>exact ⟨n+1,by omega,by omega,by go_num,HG⟩
    case measure=>simp [intOf];omega
  ·have hend:=yb8 isQ s (a+n) hlt
   rw [HE.out] at hend
   have HG:Hid (yar isQ s (a+1)=a+n):=hend
   clear hend HE
   exact absurd (HZ.out.1) (by rw [HG.out];exact hlt)
theorem ypr (s:ByteArray) (a:Nat) (w:World) (hs:s.size≤2000) (ha:a < s.size) (hc:isL s[a]=false) (hd:isD s[a]=false) (hq:((s[a].toNat:Int) == 39)=true)
  (hyp:¬ ∃ h:yar isQ s (a+1) < s.size,((s[yar isQ s (a+1)].toNat:Int) == 39)=true) :
  Calls Tryz.prog 58 #[.string s,.int .i64 (a:Int)] w fun e w'=>e=.returned (.tuple #[.int .i64 0,.int .i64 0])∧w'=w:=by
 have h1:=ycd hc
 have h2:=ybN hd
 have HZ:=yaa hyp
 clear hc hd hyp
 go_enter Tryz.func58,Tryz.ntmps58
 go_wp2_with (first|(go_at_call 113;refine (h1 _).mono ?_;rintro e w' ⟨rfl,hw'⟩;obtain rfl:=hw'.symm;clear hw')|(go_at_call 114;refine (h2 _).mono ?_;rintro e w' ⟨rfl,hw'⟩;obtain rfl:=hw'.symm;clear hw'))
 clear h1 h2
 go_loop [7] (fun i=>∃ n:Nat,1≤n∧a+n≤s.size∧i=.int .i64 n∧Hid (yar isQ s (a+n)=yar isQ s (a+1))) (fun i=>s.size - (intOf i).toNat)
 case atStart=>exact ⟨1,by omega,by omega,rfl,rfl⟩
 case round =>
  obtain ⟨n,hn1,hn2,rfl,HE⟩:=hrel
  by_cases hlt:a+n < s.size
  ·cases hD:isQ s[a+n]
   ·have h2:=yf1 hD
    have hend:=ycp isQ s (a+n) hlt hD
    rw [HE.out] at hend
    have HG:Hid (yar isQ s (a+1)=a+n):=hend
    clear hend HE hD
    have hz:((s[a+n].toNat:Int) == 39)=false:=by
     cases hz:((s[a+n].toNat:Int) == 39)
     ·rfl
     ·exact absurd ⟨by rw [HG.out];exact hlt,by simpa only [HG.out] using hz⟩ HZ.out
    go_wp2_with (go_at_call 82;refine (h2 _).mono ?_;rintro e w' ⟨rfl,hw'⟩;obtain rfl:=hw'.symm;clear hw')
    go_ret2
    exact ⟨rfl,rfl⟩
   ·have h2:=yf1 hD
    have hend:=ybD isQ s (a+n) hlt hD
    rw [HE.out] at hend
    have HG:Hid (yar isQ s (a+(n+1))=yar isQ s (a+1)):=hend.symm
    clear hend HE hD
    go_wp2_with (go_at_call 82;refine (h2 _).mono ?_;rintro e w' ⟨rfl,hw'⟩;obtain rfl:=hw'.symm;clear hw')
    go_round
    case rel=>exact ⟨n+1,by omega,by omega,by go_num,HG⟩
    case measure=>simp [intOf];omega
  ·have hend:=yb8 isQ s (a+n) hlt
   rw [HE.out] at hend
   have HG:Hid (yar isQ s (a+1)=a+n):=hend
   clear hend HE
   go_wp2
   go_ret2
   exact ⟨rfl,rfl⟩
theorem ypo (s:ByteArray) (a:Nat) (w:World) (hs:s.size≤2000) (ha:a+1 < s.size) (hc:isL s[a]=false) (hd:isD s[a]=false) (hq:((s[a].toNat:Int) == 39)=false)
  (hp:((s[a].toNat:Int) == 124)=true) (hp2:((s[a+1].toNat:Int) == 124)=true) :
  Calls Tryz.prog 58 #[.string s,.int .i64 (a:Int)] w fun e w'=>e=.returned (.tuple #[.int .i64 4,.int .i64 2])∧w'=w:=by
 have h1:=ycd hc
 have h2:=ybN hd
 clear hc hd
 go_enter Tryz.func58,Tryz.ntmps58
 go_wp2_with (first|(go_at_call 113;refine (h1 _).mono ?_;rintro e w' ⟨rfl,hw'⟩;obtain rfl:=hw'.symm;clear hw')|(go_at_call 114;refine (h2 _).mono ?_;rintro e w' ⟨rfl,hw'⟩;obtain rfl:=hw'.symm;clear hw'))
 go_ret2
 exact ⟨rfl,rfl⟩
def sg:List UInt8:=[40,41,44,59,42,61,60,43,45]
theorem yuk (n:Nat) (h:n < sg.length) (h':n < (⟨#[40,41,44,59,42,61,60,43,45]⟩:ByteArray).size):(⟨#[40,41,44,59,42,61,60,43,45]⟩:ByteArray)[n]=sg[n]'h:=rfl
theorem yf8 {c:UInt8} {n:Nat} (h':n < (⟨#[40,41,44,59,42,61,60,43,45]⟩:ByteArray).size) (HE:∀ j (h:j < sg.length),j < n→sg[j]≠c)
  (hz:(((⟨#[40,41,44,59,42,61,60,43,45]⟩:ByteArray)[n].toNat:Int) == (c.toNat:Int))=false):∀ j (h:j < sg.length),j < n+1→sg[j]≠c:=by
 intro j h hj
 by_cases e:j=n
 ·subst e
  intro e2
  have hz2:((sg[j].toNat:Int) == (c.toNat:Int))=false:=hz
  exact (beq_eq_false_iff_ne.1 hz2) (congrArg (fun x:UInt8=>(x.toNat:Int)) e2)
 ·exact HE j h (by omega)
theorem ymy {c:UInt8} {n:Nat} (h':n < (⟨#[40,41,44,59,42,61,60,43,45]⟩:ByteArray).size)
  (hz:(((⟨#[40,41,44,59,42,61,60,43,45]⟩:ByteArray)[n].toNat:Int) == (c.toNat:Int))=true):isS c=true:=by
 have h:n < sg.length:=h'
 rw [yuk n h h'] at hz
 have e:sg[n]=c:=by apply UInt8.toNat_inj.1;have:=eq_of_beq hz;omega
 unfold isS
 rw [decide_eq_true_eq,← e]
 exact List.getElem_mem h
theorem yf7 {c:UInt8} (HE:∀ j (h:j < sg.length),j < 9→sg[j]≠c):isS c=false:=by
 unfold isS
 rw [decide_eq_false_iff_not]
 intro h
 obtain ⟨j,hj,e⟩:=List.getElem_of_mem (show c ∈ sg from h)
 exact HE j hj hj e
theorem yps (s:ByteArray) (a:Nat) (w:World) (_hs:s.size≤2000) (ha:a < s.size) (hc:isL s[a]=false) (hd:isD s[a]=false) (hq:((s[a].toNat:Int) == 39)=false)
  (hp:((s[a].toNat:Int) == 124)=false) (hS:isS s[a]=true) :
  Calls Tryz.prog 58 #[.string s,.int .i64 (a:Int)] w fun e w'=>e=.returned (.tuple #[.int .i64 4,.int .i64 1])∧w'=w:=by
 have h1:=ycd hc
 have h2:=ybN hd
 have HS:=yaa hS
 clear hc hd hS
 go_enter Tryz.func58,Tryz.ntmps58
 go_wp2_with (first|(go_at_call 113;refine (h1 _).mono ?_;rintro e w' ⟨rfl,hw'⟩;obtain rfl:=hw'.symm;clear hw')|(go_at_call 114;refine (h2 _).mono ?_;rintro e w' ⟨rfl,hw'⟩;obtain rfl:=hw'.symm;clear hw'))
 clear h1 h2
 go_loop [9] (fun i=>∃ n:Nat,n≤9∧i=.int .i64 n∧Hid (∀ j (h:j < sg.length),j < n→sg[j]≠s[a])) (fun i=>9 - (intOf i).toNat)
 case atStart=>exact ⟨0,by omega,rfl,fun j _ h=>by omega⟩
 case round =>
  obtain ⟨n,hn,rfl,HE⟩:=hrel
  by_cases hlt:n < 9
  ·go_wp2
   ·go_ret2
    exact ⟨rfl,rfl⟩
   ·go_round
    case rel=>exact ⟨n+1,by omega,by go_num,yaa (yf8 hlt HE.out ‹_›)⟩
    case measure=>simp [intOf];omega
  ·have hn9:n=9:=by omega
   have hm:=yf7 (by have:=HE.out;rw [hn9] at this;exact this)
   clear hn9
   rw [HS.out] at hm;cases hm
theorem ypq (s:ByteArray) (a:Nat) (w:World) (_hs:s.size≤2000) (ha:a < s.size) (hc:isL s[a]=false) (hd:isD s[a]=false) (hq:((s[a].toNat:Int) == 39)=false)
  (hp:((s[a].toNat:Int) == 124)=false) (hS:isS s[a]=false) :
  Calls Tryz.prog 58 #[.string s,.int .i64 (a:Int)] w fun e w'=>e=.returned (.tuple #[.int .i64 0,.int .i64 0])∧w'=w:=by
 have h1:=ycd hc
 have h2:=ybN hd
 have HS:=yaa hS
 clear hc hd hS
 go_enter Tryz.func58,Tryz.ntmps58
 go_wp2_with (first|(go_at_call 113;refine (h1 _).mono ?_;rintro e w' ⟨rfl,hw'⟩;obtain rfl:=hw'.symm;clear hw')|(go_at_call 114;refine (h2 _).mono ?_;rintro e w' ⟨rfl,hw'⟩;obtain rfl:=hw'.symm;clear hw'))
 clear h1 h2
 go_loop [9] (fun i=>∃ n:Nat,n≤9∧i=.int .i64 n∧Hid (∀ j (h:j < sg.length),j < n→sg[j]≠s[a])) (fun i=>9 - (intOf i).toNat)
 case atStart=>exact ⟨0,by omega,rfl,fun j _ h=>by omega⟩
 case round =>
  obtain ⟨n,hn,rfl,HE⟩:=hrel
  by_cases hlt:n < 9
  ·go_wp2
   ·have hh:=ymy hlt ‹_›
    rw [HS.out] at hh;cases hh
   ·go_round
    case rel=>exact ⟨n+1,by omega,by go_num,yaa (yf8 hlt HE.out ‹_›)⟩
    case measure=>simp [intOf];omega
  ·have hn9:n=9:=by omega
   have hm:=yf7 (by have:=HE.out;rw [hn9] at this;exact this)
   clear hn9
   clear hm
   go_wp2
   go_ret2
   exact ⟨rfl,rfl⟩
theorem yiU (s:ByteArray) (a:Nat) (w:World) (hs:s.size≤2000) (ha:a < s.size) (hc:isL s[a]=false) (hd:isD s[a]=false) (hq:((s[a].toNat:Int) == 39)=false)
  (hp:((s[a].toNat:Int) == 124)=true) (he:¬ a+1 < s.size) (hS:isS s[a]=false) :
  Calls Tryz.prog 58 #[.string s,.int .i64 (a:Int)] w fun e w'=>e=.returned (.tuple #[.int .i64 0,.int .i64 0])∧w'=w:=by
 have h1:=ycd hc
 have h2:=ybN hd
 have HS:=yaa hS
 clear hc hd hS
 go_enter Tryz.func58,Tryz.ntmps58
 go_wp2_with (first|(go_at_call 113;refine (h1 _).mono ?_;rintro e w' ⟨rfl,hw'⟩;obtain rfl:=hw'.symm;clear hw')|(go_at_call 114;refine (h2 _).mono ?_;rintro e w' ⟨rfl,hw'⟩;obtain rfl:=hw'.symm;clear hw'))
 clear h1 h2
 go_loop [9] (fun i=>∃ n:Nat,n≤9∧i=.int .i64 n∧Hid (∀ j (h:j < sg.length),j < n→sg[j]≠s[a])) (fun i=>9 - (intOf i).toNat)
 case atStart=>exact ⟨0,by omega,rfl,fun j _ h=>by omega⟩
 case round =>
  obtain ⟨n,hn,rfl,HE⟩:=hrel
  by_cases hlt:n < 9
  ·go_wp2
   ·have hh:=ymy hlt ‹_›
    rw [HS.out] at hh;cases hh
   ·go_round
    case rel=>exact ⟨n+1,by omega,by go_num,yaa (yf8 hlt HE.out ‹_›)⟩
    case measure=>simp [intOf];omega
  ·have hn9:n=9:=by omega
   have hm:=yf7 (by have:=HE.out;rw [hn9] at this;exact this)
   clear hn9
   clear hm
   go_wp2
   go_ret2
   exact ⟨rfl,rfl⟩
theorem yiV (s:ByteArray) (a:Nat) (w:World) (hs:s.size≤2000) (ha:a < s.size) (hc:isL s[a]=false) (hd:isD s[a]=false) (hq:((s[a].toNat:Int) == 39)=false)
  (hp:((s[a].toNat:Int) == 124)=true) (he:a+1 < s.size) (hp2:((s[a+1].toNat:Int) == 124)=false) (hS:isS s[a]=false) :
  Calls Tryz.prog 58 #[.string s,.int .i64 (a:Int)] w fun e w'=>e=.returned (.tuple #[.int .i64 0,.int .i64 0])∧w'=w:=by
 have h1:=ycd hc
 have h2:=ybN hd
 have HS:=yaa hS
 clear hc hd hS
 go_enter Tryz.func58,Tryz.ntmps58
 go_wp2_with (first|(go_at_call 113;refine (h1 _).mono ?_;rintro e w' ⟨rfl,hw'⟩;obtain rfl:=hw'.symm;clear hw')|(go_at_call 114;refine (h2 _).mono ?_;rintro e w' ⟨rfl,hw'⟩;obtain rfl:=hw'.symm;clear hw'))
 clear h1 h2
 go_loop [9] (fun i=>∃ n:Nat,n≤9∧i=.int .i64 n∧Hid (∀ j (h:j < sg.length),j < n→sg[j]≠s[a])) (fun i=>9 - (intOf i).toNat)
 case atStart=>exact ⟨0,by omega,rfl,fun j _ h=>by omega⟩
 case round =>
  obtain ⟨n,hn,rfl,HE⟩:=hrel
  by_cases hlt:n < 9
  ·go_wp2
   ·have hh:=ymy hlt ‹_›
    rw [HS.out] at hh;cases hh
   ·go_round
    case rel=>exact ⟨n+1,by omega,by go_num,yaa (yf8 hlt HE.out ‹_›)⟩
    case measure=>simp [intOf];omega
  ·have hn9:n=9:=by omega
   have hm:=yf7 (by have:=HE.out;rw [hn9] at this;exact this)
   clear hn9
   clear hm
   go_wp2
   go_ret2
   exact ⟨rfl,rfl⟩
def atV (s:ByteArray) (a:Nat):Value:=.tuple #[.int .i64 ((ya2 (s.data.toList.drop a)).1:Nat),.int .i64 ((ya2 (s.data.toList.drop a)).2:Nat)]
theorem yg5 (s:ByteArray) (a:Nat) (w:World) (hs:s.size≤2000) (ha:a < s.size) :
  Calls Tryz.prog 58 #[.string s,.int .i64 (a:Int)] w fun e w'=>e=.returned (atV s a)∧w'=w:=by
 have hd:=ycF s a ha
 have get:∀ j,(h:j < s.size)→a+1≤j→(s.data.toList.drop (a+1))[j - (a+1)]?=some s[j]:=by
  intro j h hj
  rw [List.getElem?_drop,show a+1+(j - (a+1))=j by omega,List.getElem?_eq_getElem (by simpa using h)];rfl
 have val:∀ K N,ya2 (s.data.toList.drop a)=(K,N)→atV s a=.tuple #[.int .i64 (K:Nat),.int .i64 (N:Nat)]:=by
  intro K N h;unfold atV;rw [h]
 rw [hd] at val
 cases hL:isL s[a]
 case true =>
  rw [val 1 (ycv isW (s.data.toList.drop (a+1))+1) (by simp [ya2,hL]),show ycv isW (s.data.toList.drop (a+1))+1=yar isW s (a+1) - a by unfold yar;omega]
  exact ypp s a w hs ha hL
 case false =>
 cases hD:isD s[a]
 case true =>
  rw [val 2 (ycv isD (s.data.toList.drop (a+1))+1) (by simp [ya2,hL,hD]),show ycv isD (s.data.toList.drop (a+1))+1=yar isD s (a+1) - a by unfold yar;omega]
  exact ykr s a w hs ha hL hD
 case false =>
 cases hQ:((s[a].toNat:Int) == 39)
 case true =>
  have hq:s[a]=39:=by rw [yeU] at hQ;simpa using hQ
  have l39:isL 39=false:=by decide
  have d39:isD 39=false:=by decide
  have hsp:yar isQ s (a+1)=a+1+ycv isQ (s.data.toList.drop (a+1)):=rfl
  by_cases he:∃ h:yar isQ s (a+1) < s.size,((s[yar isQ s (a+1)].toNat:Int) == 39)=true
  ·obtain ⟨h1,h2⟩:=he
   have hg:=get _ h1 (ych isQ s (a+1))
   rw [show yar isQ s (a+1) - (a+1)=ycv isQ (s.data.toList.drop (a+1)) by omega] at hg
   have hz:s[yar isQ s (a+1)]=39:=by rw [yeU] at h2;simpa using h2
   rw [val 3 (ycv isQ (s.data.toList.drop (a+1))+2) (by simp only [ya2,l39,d39,hq,hg,hz];rfl),show ycv isQ (s.data.toList.drop (a+1))+2=yar isQ s (a+1) - a+1 by omega]
   exact ypt s a w hs ha hL hD hQ ⟨h1,h2⟩
  ·have hg:¬ (s.data.toList.drop (a+1))[ycv isQ (s.data.toList.drop (a+1))]?=some 39:=by
    intro hg
    have h1:yar isQ s (a+1) < s.size:=by
     rcases Nat.lt_or_ge (yar isQ s (a+1)) s.size with h|h
     ·exact h
     ·rw [List.getElem?_eq_none (by simp;omega)] at hg;cases hg
    have hg2:=get _ h1 (ych isQ s (a+1))
    rw [show yar isQ s (a+1) - (a+1)=ycv isQ (s.data.toList.drop (a+1)) by omega,hg] at hg2
    exact he ⟨h1,by rw [yeU];simpa using (Option.some.inj hg2).symm⟩
   rw [val 0 0 (by simp only [ya2,l39,d39,hq,hg,Bool.false_eq_true,if_false,if_true])]
   exact ypr s a w hs ha hL hD hQ he
 case false =>
 have hq:¬ s[a]=39:=by rw [yeU] at hQ;simpa using hQ
 have hb:=ydj s[a] (s.data.toList.drop (a+1))
 cases hP:((s[a].toNat:Int) == 124)
 case false =>
  have hp:¬ s[a]=124:=by rw [show (124:Int)=((124:UInt8).toNat:Int) from rfl,yoS] at hP;simpa using hP
  have hb0:ycO (s[a]::s.data.toList.drop (a+1))=false:=by rw [hb];simp [hp]
  cases hS:isS s[a]
  case true =>
   rw [val 4 1 (by simp [ya2,hL,hD,hq,hb0,hS])]
   exact yps s a w hs ha hL hD hQ hP hS
  case false =>
   rw [val 0 0 (by simp [ya2,hL,hD,hq,hb0,hS])]
   exact ypq s a w hs ha hL hD hQ hP hS
 case true =>
  have hp:s[a]=124:=by rw [show (124:Int)=((124:UInt8).toNat:Int) from rfl,yoS] at hP;simpa using hP
  have hS:isS s[a]=false:=by rw [hp];decide
  by_cases he:a+1 < s.size
  ·have hh:(s.data.toList.drop (a+1)).head?=some s[a+1]:=by rw [ycF s (a+1) he];rfl
   cases hP2:((s[a+1].toNat:Int) == 124)
   case true =>
    have hp2:s[a+1]=124:=by rw [show (124:Int)=((124:UInt8).toNat:Int) from rfl,yoS] at hP2;simpa using hP2
    have hb0:ycO (s[a]::s.data.toList.drop (a+1))=true:=by rw [hb,hh];simp [hp,hp2]
    rw [val 4 2 (by simp [ya2,hL,hD,hq,hb0])]
    exact ypo s a w hs he hL hD hQ hP hP2
   case false =>
    have hp2:¬ s[a+1]=124:=by rw [show (124:Int)=((124:UInt8).toNat:Int) from rfl,yoS] at hP2;simpa using hP2
    have hb0:ycO (s[a]::s.data.toList.drop (a+1))=false:=by rw [hb,hh];simp [hp2]
    rw [val 0 0 (by simp [ya2,hL,hD,hq,hb0,hS])]
    exact yiV s a w hs ha hL hD hQ hP he hP2 hS
  ·have hh:(s.data.toList.drop (a+1)).head?=none:=by rw [List.drop_eq_nil_of_le (by simp;omega)];rfl
   have hb0:ycO (s[a]::s.data.toList.drop (a+1))=false:=by rw [hb,hh];simp
   rw [val 0 0 (by simp [ya2,hL,hD,hq,hb0,hS])]
   exact yiU s a w hs ha hL hD hQ hP he hS
theorem yq4 (t:ByteArray) (w:World)  :
  Calls Tryz.prog 59 #[.int .i64 0,.string t] w fun e w'=>e=.returned (.int .i64 1)∧w'=w:=by
 go_enter Tryz.func59,Tryz.ntmps59
 go_wp2
 go_ret
 exact ⟨rfl,rfl⟩
theorem yhd (t:ByteArray) (w:World) (hl:12 < t.size) :
  Calls Tryz.prog 59 #[.int .i64 1,.string t] w fun e w'=>e=.returned (.int .i64 2)∧w'=w:=by
 go_enter Tryz.func59,Tryz.ntmps59
 go_wp2
 go_ret
 exact ⟨rfl,rfl⟩
theorem ykb (t:ByteArray) (w:World) (hl:t.size≤12) :
  Calls Tryz.prog 59 #[.int .i64 1,.string t] w fun e w'=>e=.returned (.int .i64 0)∧w'=w:=by
 go_enter Tryz.func59,Tryz.ntmps59
 go_wp2
 go_ret
 exact ⟨rfl,rfl⟩
theorem yhe (t:ByteArray) (w:World) (hl:9 < t.size) :
  Calls Tryz.prog 59 #[.int .i64 2,.string t] w fun e w'=>e=.returned (.int .i64 2)∧w'=w:=by
 go_enter Tryz.func59,Tryz.ntmps59
 go_wp2
 go_ret
 exact ⟨rfl,rfl⟩
theorem yih (t:ByteArray) (w:World) (hl:t.size≤1) :
  Calls Tryz.prog 59 #[.int .i64 2,.string t] w fun e w'=>e=.returned (.int .i64 0)∧w'=w:=by
 go_enter Tryz.func59,Tryz.ntmps59
 go_wp2
 go_ret
 exact ⟨rfl,rfl⟩
theorem yfc (t:ByteArray) (w:World) (hl:t.size≤9) (h1:1 < t.size) (hz:((t[0].toNat:Int) == 48)=true) :
  Calls Tryz.prog 59 #[.int .i64 2,.string t] w fun e w'=>e=.returned (.int .i64 1)∧w'=w:=by
 go_enter Tryz.func59,Tryz.ntmps59
 go_wp2
 go_ret
 exact ⟨rfl,rfl⟩
theorem ykc (t:ByteArray) (w:World) (hl:t.size≤9) (h1:1 < t.size) (hz:((t[0].toNat:Int) == 48)=false) :
  Calls Tryz.prog 59 #[.int .i64 2,.string t] w fun e w'=>e=.returned (.int .i64 0)∧w'=w:=by
 go_enter Tryz.func59,Tryz.ntmps59
 go_wp2
 go_ret
 exact ⟨rfl,rfl⟩
theorem yhf (t:ByteArray) (w:World) (hl:22 < t.size) :
  Calls Tryz.prog 59 #[.int .i64 3,.string t] w fun e w'=>e=.returned (.int .i64 2)∧w'=w:=by
 go_enter Tryz.func59,Tryz.ntmps59
 go_wp2
 go_ret
 exact ⟨rfl,rfl⟩
theorem ykd (t:ByteArray) (w:World) (hl:t.size≤22) :
  Calls Tryz.prog 59 #[.int .i64 3,.string t] w fun e w'=>e=.returned (.int .i64 0)∧w'=w:=by
 go_enter Tryz.func59,Tryz.ntmps59
 go_wp2
 go_ret
 exact ⟨rfl,rfl⟩
theorem yq5 (t:ByteArray) (w:World)  :
  Calls Tryz.prog 59 #[.int .i64 4,.string t] w fun e w'=>e=.returned (.int .i64 0)∧w'=w:=by
 go_enter Tryz.func59,Tryz.ntmps59
 go_wp2
 go_ret
 exact ⟨rfl,rfl⟩
theorem yhg (k:Nat) (t:ByteArray) (w:World) (hk:k≤4) :
  Calls Tryz.prog 59 #[.int .i64 (k:Int),.string t] w fun e w'=>e=.returned (.int .i64 (yay k t.data.toList:Nat))∧w'=w:=by
 match k,hk with
 | 0,_=>exact yq4 t w
 | 1,_ =>
  by_cases h:12 < t.size
  ·rw [show yay 1 t.data.toList=2 by simp [yay,h]];exact yhd t w h
  ·rw [show yay 1 t.data.toList=0 by simp [yay];omega];exact ykb t w (by omega)
 | 2,_ =>
  by_cases h:9 < t.size
  ·rw [show yay 2 t.data.toList=2 by simp [yay,h]];exact yhe t w h
  ·by_cases h1:1 < t.size
   ·have hh:t.data.toList.head?=some t[0]:=by
     rw [List.head?_eq_getElem?,List.getElem?_eq_getElem (by simp;omega)];rfl
    cases hz:((t[0].toNat:Int) == 48)
    ·have hz':¬ t[0]=48:=by
      intro e;rw [e] at hz;revert hz;decide
     rw [show yay 2 t.data.toList=0 by unfold yay;rw [hh];simp [h,hz']];exact ykc t w (by omega) h1 hz
    ·have hz':t[0]=48:=by
      apply UInt8.toNat_inj.1;have:=eq_of_beq hz;simp;omega
     rw [show yay 2 t.data.toList=1 by unfold yay;rw [hh];simp [h,h1,hz']];exact yfc t w (by omega) h1 hz
   ·rw [show yay 2 t.data.toList=0 by simp [yay,h,h1]];exact yih t w (by omega)
 | 3,_ =>
  by_cases h:22 < t.size
  ·rw [show yay 3 t.data.toList=2 by simp [yay,h]];exact yhf t w h
  ·rw [show yay 3 t.data.toList=0 by simp [yay,h]];exact ykd t w (by omega)
 | 4,_=>rw [show yay 4 t.data.toList=0 by simp [yay]];exact yq5 t w
theorem yib (s:ByteArray) (w:World) (hs:2000 < s.size) (hm:s.size≤9223372036854775000) :
  Calls Tryz.prog 22 #[.string s] w fun e w'=>e=.returned (.tuple #[.slice none 0 0,.int .i64 0,.int .i64 2])∧w'=w:=by
 go_enter Tryz.func22,Tryz.ntmps22
 go_wp2
 go_ret3
 exact ⟨rfl,rfl⟩
theorem ygV (s:ByteArray) (w:World) (hs:s.size≤2000) :
  Calls Tryz.prog 22 #[.string s] w fun e w'=>∃ v,e=.returned (.tuple #[v,.int .i64 ((ya4 0 s.data.toList []).2.1:Nat),.int .i64 ((ya4 0 s.data.toList []).2.2:Nat)]) ∧
   w'.ownsRow w.heap.size 63 3 v (ya4 0 s.data.toList []).1.length (ybA (ya4 0 s.data.toList []).1)∧Below w.heap.size w w':=by
 obtain ⟨i0,hi,hz0,hz1,hz2⟩:=info_parts Tryz.info34
 have hbs:decide ((2000:Int) < (s.size:Int))=false:=by simp;omega
 go_enter Tryz.func22,Tryz.ntmps22
 go_wp2
 go_loopw [5,6] (fun v i wr=>∃ (k:Nat) (acc:List Tk),k≤s.size∧i=.int .i64 k∧wr.ownsRow w.heap.size 63 3 v acc.length (ybA acc)∧Below w.heap.size w wr∧acc.length≤k ∧
   Hid (ya4 k (s.data.toList.drop k) acc=ya4 0 s.data.toList [])) (fun _ i _=>s.size - (intOf i).toNat)
 case atStart =>
  exact ⟨0,[],Nat.zero_le _,rfl,World.ownsRow_nil _ _ _ _,Below.refl _ _,Nat.zero_le _,rfl⟩
 case round =>
  obtain ⟨k,acc,hk,rfl,hown,hnx,hacc,HE⟩:=hrel
  by_cases hlt:k < s.size
  ·have hsz:=hnx.size
   cases hB:isB s[k]
   case true =>
    have h1:ya4 k (s.data.toList.drop k) acc=ya4 (k+1) (s.data.toList.drop (k+1)) acc:=by rw [ycF s k hlt];exact ydn k _ _ acc hB
    have HG:Hid (ya4 (k+1) (s.data.toList.drop (k+1)) acc=ya4 0 s.data.toList []):=h1.symm.trans HE.out
    clear h1 HE
    rcases ygz hB with h|⟨h,h'⟩|⟨h,h',h''⟩
    all_goals
     clear hB
     go_wp2
     go_roundw
     case rel=>exact ⟨k+1,acc,by omega,by go_num,hown,hnx,by omega,HG⟩
     case measure=>simp [intOf];omega
   case false =>
   obtain ⟨K,N,hp⟩:∃ K N,ya2 (s.data.toList.drop k)=(K,N):=⟨_,_,rfl⟩
   have hk4:=(yc1 (s.data.toList.drop k)).1
   have hnl:=ygd (s.data.toList.drop k)
   have ht:=yg5 s k wr hs hlt
   obtain ⟨g0,g1⟩:=ygX s k acc K N hlt hp hB
   rw [HE.out] at g0 g1
   have hpos:K≠0→1≤N:=by
    have:=ycK s[k] (s.data.toList.drop (k+1))
    rw [← ycF s k hlt,hp] at this;exact this
   rw [atV,hp] at ht
   rw [hp] at hk4 hnl
   obtain ⟨n1,n2,n3⟩:=yqn hB
   simp only [List.length_drop] at hnl hk4
   have hnl':N≤s.size - k:=by simpa using hnl
   clear hnl hp HE hB
   obtain ⟨T,hT⟩:∃ T,T=s.extract k (k+N):=⟨_,rfl⟩
   have hTs:T.size=N:=by rw [hT];simp;omega
   have hTl:T.data.toList=(s.data.toList.drop k).take N:=by rw [hT,Lib.extract_data];congr 1;omega
   rw [← hTl] at g0 g1
   have hw:=fun W=>yhg K T W hk4
   rw [hT] at hw
   obtain ⟨E,hE⟩:∃ E,yay K T.data.toList=E:=⟨_,rfl⟩
   rw [← hT,hE] at hw
   rw [hE] at g0 g1
   rw [hT] at hw
   have HT:=yaa hT
   have HS:=yaa hTs
   have HE:=yaa hE
   have HP:=yaa hpos
   clear hE hT hTl hpos hTs
   by_cases hE0:E=0
   ·subst hE0
    have g0':=yaa (g0 rfl)
    have hN1:1≤N:=HP.out (by intro e;subst e;have:=HE.out;simp [yay] at this)
    clear g0 g1
    go_wp2_with (first|(go_at_call 58;refine ht.mono ?_;rintro e w' ⟨rfl,hw'⟩;obtain rfl:=hw'.symm;clear hw')|(go_at_call 59;refine (hw _).mono ?_;rintro e w' ⟨rfl,hw'⟩;obtain rfl:=hw'.symm;clear hw')|(at_builtin;refine wpList_append_own _ rfl _ _ 40 rfl w.heap.size 63 i0 (.agg #[.int .i64 0,.int .i64 0,.string ⟨#[]⟩]) 3 32 Tryz.underlying40 hi hz0 hz1 hz2 rfl (by decide) _ _ _ rfl (hown.alloc _) ⟨wr.heap.size,0,none⟩ 1 1 [.int .i64 (K:Nat),.int .i64 (k:Nat),.string (s.extract k (k+N))] rfl rfl ?c1 ?c2 ?c3 ?c4 ?c5 ?_))
    case c1 =>
     intro j u hj
     match j,hj with
     | 0,hj=>simp at hj;subst hj;simp [Addr.add]
     | 1,hj=>simp at hj;subst hj;simp [Addr.add]
     | 2,hj=>simp at hj;subst hj;simp [Addr.add]
    case c2=>intro u hu;simp at hu;rcases hu with rfl|rfl|rfl <;> rfl
    case c3=>unfold maxLen;omega
    case c4=>omega
    case c5=>simp;omega
    intro v' w3 hown' hgrow _
    have hB3:Below w.heap.size w w3:=((hnx.alloc hsz _).grown hgrow (by simp;omega) (fun j hj=>(hown.lt j hj).1))
    have R3:w3.ownsRow w.heap.size 63 3 v' (acc++[(⟨(K:Nat),(k:Nat),T.data.toList⟩:Tk)]).length (ybA (acc++[⟨(K:Nat),(k:Nat),T.data.toList⟩])):=by
     rw [yeo,List.length_append]
     have:=hown'
     rw [← HT.out] at this
     exact this
    clear hown' hgrow hown hw ht
    go_wp2
    go_roundw
    case rel=>exact ⟨k+N,_,by omega,by go_num,R3,hB3,by simp;omega,yaa g0'.out.symm⟩
    case measure=>simp [intOf];omega
   ·have hEb:((E:Int) != 0)=true:=by simp;omega
    have HG:Hid (ya4 0 s.data.toList []=([],k,E)):=g1 hE0
    clear g0 g1 hE0
    go_wp2_with (first|(go_at_call 58;refine ht.mono ?_;rintro e w' ⟨rfl,hw'⟩;obtain rfl:=hw'.symm;clear hw')|(go_at_call 59;refine (hw _).mono ?_;rintro e w' ⟨rfl,hw'⟩;obtain rfl:=hw'.symm;clear hw'))
    go_ret3
    exact ⟨.slice none 0 0,by rw [HG.out];rfl,by rw [HG.out];exact World.ownsRow_nil _ _ _ _,hnx⟩
  ·have hd:s.data.toList.drop k=[]:=List.drop_eq_nil_of_le (by simp;omega)
   have HG:Hid (ya4 0 s.data.toList []=(acc,0,0)):=by rw [← HE.out,hd];rfl
   clear hd HE
   go_wp2
   go_ret3
   exact ⟨_,by rw [HG.out];rfl,by rw [HG.out];exact hown,hnx⟩
theorem yjW (s:ByteArray) (w:World) (hm:s.size≤9223372036854775000) :
  Calls Tryz.prog 22 #[.string s] w fun e w'=>∃ v,e=.returned (.tuple #[v,.int .i64 ((yaU s.data.toList).2.1:Nat),.int .i64 ((yaU s.data.toList).2.2:Nat)]) ∧
   w'.ownsRow w.heap.size 63 3 v (yaU s.data.toList).1.length (ybA (yaU s.data.toList).1)∧Below w.heap.size w w':=by
 have hl:s.data.toList.length=s.size:=by simp
 by_cases h:2000 < s.size
 ·refine (yib s w h hm).mono ?_
  rintro e w' ⟨rfl,rfl⟩
  have:yaU s.data.toList=([],0,2):=by unfold yaU;rw [if_pos (by omega)]
  rw [this]
  exact ⟨_,rfl,World.ownsRow_nil _ _ _ _,Below.refl _ _⟩
 ·have:yaU s.data.toList=ya4 0 s.data.toList []:=by unfold yaU;rw [if_neg (by omega)]
  rw [this]
  exact ygV s w (by omega)
theorem yhE (K:Int) (t:ByteArray) (w:World) (h:t.toList.isEmpty=true) :
  Calls Tryz.prog 83 #[.int .i64 K,.string t] w fun e w'=>e=.returned (.bool false)∧w'=w:=by
 go_enter Tryz.func83,Tryz.ntmps83
 go_wp2
 go_ret
 exact ⟨rfl,rfl⟩
theorem yjy (K:Int) (t:ByteArray) (w:World) (h:t.toList.isEmpty=false) (hl:2000 < t.size) (hm:t.size≤9223372036854775000) :
  Calls Tryz.prog 83 #[.int .i64 K,.string t] w fun e w'=>e=.returned (.bool false)∧w'=w:=by
 go_enter Tryz.func83,Tryz.ntmps83
 go_wp2
 go_ret
 exact ⟨rfl,rfl⟩
theorem yhF (K:Int) (t:ByteArray) (w:World) (h:t.toList.isEmpty=false) (hl:t.size≤2000) (hk:(K == 0)=true) :
  Calls Tryz.prog 83 #[.int .i64 K,.string t] w fun e w'=>e=.returned (.bool false)∧w'=w:=by
 go_enter Tryz.func83,Tryz.ntmps83
 go_wp2
 go_ret
 exact ⟨rfl,rfl⟩
theorem ynY (K:Int) (t:ByteArray) (w:World) (h:t.toList.isEmpty=false) (h1:0 < t.size) (hl:t.size≤2000) (hk:(K == 0)=false) (k N E:Nat) (hp:ya2 t.data.toList=(k,N)) (hk4:k≤4) (hE:yay k t.data.toList=E) :
  Calls Tryz.prog 83 #[.int .i64 K,.string t] w fun e w'=>e=.returned (.bool (((k:Int) == K)&&((N:Int) == (t.size:Int))&&((E:Int) == 0)))∧w'=w:=by
 have ht:=yg5 t 0 w hl h1
 rw [atV,List.drop_zero,hp] at ht
 have hw:=yhg k t w hk4
 rw [hE] at hw
 clear hp hE
 cases b1:((k:Int) == K) <;> cases b2:((N:Int) == (t.size:Int)) <;> cases b3:((E:Int) == 0)
 all_goals
  go_enter Tryz.func83,Tryz.ntmps83
  go_wp2_with (first|(go_at_call 58;refine ht.mono ?_;rintro e w' ⟨rfl,hw'⟩;obtain rfl:=hw'.symm;clear hw')|(go_at_call 59;refine hw.mono ?_;rintro e w' ⟨rfl,hw'⟩;obtain rfl:=hw'.symm;clear hw'))
  go_ret
  exact ⟨rfl,rfl⟩
end Go.Proofs.YtkpeklealgicpabGreatDoor
