/-
  'expr' and 'bracketed' of the parser: expressions in memory.
  'expr' and 'bracketed' of the parser.
  'listed' and 'inBrackets' of the parser.
  'inBrackets' of the parser.
  Commands in memory.
  A whole command out of and into memory, in one step each.
  'where' of the parser.
-/
import Derived.Deep.MidRow
import Derived.Test.YtkpeklealgicpabGreatDoorQa
import Derived.Test.YtkpeklealgicpabGreatDoorQb

set_option maxRecDepth 100000
set_option maxHeartbeats 8000000
namespace Go.Proofs.YtkpeklealgicpabGreatDoor
open Go.RowKit
def exV (k:Int) (x:Vl) (nm:List UInt8) (a:Value):Value:=.agg #[.int .i64 k,.int .i64 x.k,.int .i64 x.n,.string ⟨x.s.toArray⟩,.string ⟨nm.toArray⟩,a]
def Six (w:World) (b o:Nat) (u:Value):Prop :=
 ∃ k x nm a,u=exV k x nm a∧w.cell? ⟨b,o,none⟩=some (.int .i64 k)∧w.cell? ⟨b,o+1,none⟩=some (.int .i64 x.k)∧w.cell? ⟨b,o+2,none⟩=some (.int .i64 x.n) ∧
  w.cell? ⟨b,o+3,none⟩=some (.string ⟨x.s.toArray⟩)∧w.cell? ⟨b,o+4,none⟩=some (.string ⟨nm.toArray⟩)∧w.cell? ⟨b,o+5,none⟩=some a
inductive ExAt (B:Nat) (w:World):Value→Ex→Prop where
 | nil (k:Int) (x:Vl) (nm:List UInt8) (ao:Option Addr) (cap:Nat) (hz:ao=none→cap=0):ExAt B w (exV k x nm (.slice ao 0 cap)) (.mk k x nm [])
 | args (k:Int) (x:Vl) (nm:List UInt8) (b off cap:Nat) (xs:List Ex) (us:Nat→Value) (hx:xs≠[]) (hB:B≤b) (hs:b < w.heap.size) (hc:∀ i,i < xs.length→Six w b (off+6*i) (us i))
   (h:∀ i y,xs[i]?=some y→ExAt B w (us i) y):ExAt B w (exV k x nm (.slice (some ⟨b,off,none⟩) xs.length cap)) (.mk k x nm xs)
theorem Six.keep {w w':World} {b o:Nat} {u:Value} (h:Six w b o u) (hk:w'.heap[b]?=w.heap[b]?):Six w' b o u:=by
 obtain ⟨k,x,nm,a,rfl,h0,h1,h2,h3,h4,h5⟩:=h
 have e:∀ o,w'.cell? ⟨b,o,none⟩=w.cell? ⟨b,o,none⟩:=fun o=>World.cell?_of_block (w:=w) hk
 exact ⟨k,x,nm,a,rfl,(e _).trans h0,(e _).trans h1,(e _).trans h2,(e _).trans h3,(e _).trans h4,(e _).trans h5⟩
theorem ExAt.keep {B:Nat} {w w':World} {u:Value} {x:Ex} (h:ExAt B w u x) (hs:w.heap.size≤w'.heap.size) (hk:∀ b,B≤b→b < w.heap.size→w'.heap[b]?=w.heap[b]?):ExAt B w' u x:=by
 induction h with
 | nil k x nm ao cap hz=>exact .nil k x nm ao cap hz
 | args k x nm b off cap xs us hx hB hsz hc _ ih =>
  exact .args k x nm b off cap xs us hx hB (Nat.lt_of_lt_of_le hsz hs) (fun i hi=>(hc i hi).keep (hk b hB hsz)) ih
theorem ExAt.grown {B pb:Nat} {w w':World} {u:Value} {x:Ex} (h:ExAt B w u x) (hp:pb < B) (hg:w.grownBy w' (some pb)):ExAt B w' u x :=
 h.keep hg.size fun b hB hs=>hg.block b hs (by simp only [ne_eq,Option.some.injEq];omega)
theorem ExAt.put {B:Nat} {w:World} {u:Value} {x:Ex} (h:ExAt B w u x) {b:Nat} (hb:b < B) (o:Nat) (y:Value):ExAt B (w.setCell ⟨b,o,none⟩ y) u x :=
 h.keep (by simp [World.setCell]) fun c hc _=>heap_setCell_other w _ c y (by simp only;omega)
theorem ExAt.alloc {B:Nat} {w:World} {u:Value} {x:Ex} (h:ExAt B w u x) (o:Obj):ExAt B (w.alloc o) u x :=
 h.keep (by simp) fun b _ hs=>((Below.refl w.heap.size w).alloc (Nat.le_refl _) o).block b hs
theorem ExAt.under {B:Nat} {w w':World} {u:Value} {x:Ex} (h:ExAt B w u x) (hb:Below w.heap.size w w'):ExAt B w' u x :=
 h.keep hb.size fun b _ hs=>hb.block b hs
theorem ExAt.weak {B B':Nat} {w:World} {u:Value} {x:Ex} (h:ExAt B w u x) (hB:B'≤B):ExAt B' w u x:=by
 induction h with
 | nil k x nm ao cap hz=>exact .nil k x nm ao cap hz
 | args k x nm b off cap xs us hx hb hsz hc _ ih=>exact .args k x nm b off cap xs us hx (Nat.le_trans hB hb) hsz hc ih
theorem ExAt.form {B:Nat} {w:World} {u:Value} {x:Ex} (h:ExAt B w u x):∃ k y nm ao n cap,u=exV k y nm (.slice ao n cap):=by
 cases h with
 | nil k x nm ao cap _=>exact ⟨_,_,_,_,_,_,rfl⟩
 | args k x nm b off cap xs us=>exact ⟨_,_,_,_,_,_,rfl⟩
def yiS (B:Nat) (w:World) (u:Value) (x:Ex):Prop:=ExAt B w u x
theorem ynr {w:World} {b:Nat} {t:TypeId} {cs:Array Value} (h:w.heap[b]?=some (.cells cs t)) (o:Nat) (k:Int) (x:Vl) (nm:List UInt8) (a:Value)
  (h0:cs[o]?=some (.int .i64 k)) (h1:cs[o+1]?=some (.int .i64 x.k)) (h2:cs[o+2]?=some (.int .i64 x.n)) (h3:cs[o+3]?=some (.string ⟨x.s.toArray⟩)) (h4:cs[o+4]?=some (.string ⟨nm.toArray⟩)) (h5:cs[o+5]?=some a):Six w b o (exV k x nm a) :=
 ⟨k,x,nm,a,rfl,(Lib.cell_of_heap h _).trans h0,(Lib.cell_of_heap h _).trans h1,(Lib.cell_of_heap h _).trans h2,(Lib.cell_of_heap h _).trans h3,(Lib.cell_of_heap h _).trans h4,(Lib.cell_of_heap h _).trans h5⟩
theorem yi8 {B:Nat} {w:World} {b:Nat} {t:TypeId} {k:Int} {x:Vl} {nm:List UInt8} {a:Value} {y:Ex} (hk:w.heap[b]?=some (.cells #[.int .i64 k,.int .i64 x.k,.int .i64 x.n,.string ⟨x.s.toArray⟩,.string ⟨nm.toArray⟩,a] t)) (hB:B≤b) (h:ExAt B w (exV k x nm a) y) (K:Int) (cap:Nat) :
  ExAt B w (exV K vl0 [] (.slice (some ⟨b,0,none⟩) 1 cap)) (.mk K vl0 [] [y]):=by
 refine .args K vl0 [] b 0 cap [y] (fun _=>exV k x nm a) (by simp) hB (ltS hk) ?_ ?_
 ·intro i hi
  have:i=0:=by simpa using hi
  subst this
  exact ynr hk 0 k x nm a rfl rfl rfl rfl rfl rfl
 ·intro i z hz
  match i,hz with
  | 0,hz=>simp only [List.getElem?_cons_zero,Option.some.injEq] at hz;subst hz;exact h
theorem ylq {B:Nat} {w:World} {b:Nat} {t:TypeId} {k k':Int} {x x':Vl} {nm nm':List UInt8} {a a':Value} {y y':Ex} (hk:w.heap[b]?=some (.cells #[.int .i64 k,.int .i64 x.k,.int .i64 x.n,.string ⟨x.s.toArray⟩,.string ⟨nm.toArray⟩,a,.int .i64 k',.int .i64 x'.k,.int .i64 x'.n,.string ⟨x'.s.toArray⟩,.string ⟨nm'.toArray⟩,a'] t)) (hB:B≤b)
  (h:ExAt B w (exV k x nm a) y) (h':ExAt B w (exV k' x' nm' a') y') (K:Int) (cap:Nat) :
  ExAt B w (exV K vl0 [] (.slice (some ⟨b,0,none⟩) 2 cap)) (.mk K vl0 [] [y,y']):=by
 refine .args K vl0 [] b 0 cap [y,y'] (fun i=>if i=0 then exV k x nm a else exV k' x' nm' a') (by simp) hB (ltS hk) ?_ ?_
 ·intro i hi
  match i,hi with
  | 0,_=>exact ynr hk 0 k x nm a rfl rfl rfl rfl rfl rfl
  | 1,_=>exact ynr hk 6 k' x' nm' a' rfl rfl rfl rfl rfl rfl
 ·intro i z hz
  match i,hz with
  | 0,hz=>simp only [List.getElem?_cons_zero,Option.some.injEq] at hz;subst hz;exact h
  | 1,hz=>simp only [List.getElem?_cons_succ,List.getElem?_cons_zero,Option.some.injEq] at hz;subst hz;exact h'
theorem six {W:World} {b:Nat} {x0 x1 x2 x3 x4 x5:Value} {t:TypeId} (h:W.heap[b]?=some (.cells #[x0,x1,x2,x3,x4,x5] t)) :
  (W.cell? ⟨b,0,none⟩=some x0∧W.cell? ⟨b,1,none⟩=some x1∧W.cell? ⟨b,2,none⟩=some x2∧W.cell? ⟨b,3,none⟩=some x3∧W.cell? ⟨b,4,none⟩=some x4∧W.cell? ⟨b,5,none⟩=some x5) ∧
  (W.frozen? ⟨b,0,none⟩=false∧W.frozen? ⟨b,1,none⟩=false∧W.frozen? ⟨b,2,none⟩=false∧W.frozen? ⟨b,3,none⟩=false∧W.frozen? ⟨b,4,none⟩=false∧W.frozen? ⟨b,5,none⟩=false):=by
 refine ⟨⟨?_, ?_, ?_, ?_, ?_, ?_⟩,Lib.frozen_of_heap h 0,Lib.frozen_of_heap h 1,Lib.frozen_of_heap h 2,Lib.frozen_of_heap h 3,Lib.frozen_of_heap h 4,Lib.frozen_of_heap h 5⟩
 all_goals (rw [Lib.cell_of_heap h];rfl)
def put6 (W:World) (b:Nat) (y0 y1 y2 y3 y4 y5:Value):World :=
 (((((W.setCell ⟨b,0,none⟩ y0).setCell ⟨b,1,none⟩ y1).setCell ⟨b,2,none⟩ y2).setCell ⟨b,3,none⟩ y3).setCell ⟨b,4,none⟩ y4).setCell ⟨b,5,none⟩ y5
theorem yfy (W:World) (b:Nat) (y0 y1 y2 y3 y4 y5:Value):(put6 W b y0 y1 y2 y3 y4 y5).heap.size=W.heap.size:=by simp [put6,World.setCell]
theorem ydH {W:World} {b:Nat} {x0 x1 x2 x3 x4 x5:Value} {t:TypeId} (h:W.heap[b]?=some (.cells #[x0,x1,x2,x3,x4,x5] t)) (y0 y1 y2 y3 y4 y5:Value) :
  (put6 W b y0 y1 y2 y3 y4 y5).heap[b]?=some (.cells #[y0,y1,y2,y3,y4,y5] t) :=
 heap_setCell_same _ b 5 _ t y5 (heap_setCell_same _ b 4 _ t y4 (heap_setCell_same _ b 3 _ t y3 (heap_setCell_same _ b 2 _ t y2 (heap_setCell_same _ b 1 _ t y1 (heap_setCell_same W b 0 _ t y0 h)))))
theorem St.put6 {w:World} {base pb:Nat} {v:Value} {T:List Tk} {en:Int} {i:Nat} (h:St w base pb v T en i) {b:Nat} (hb:b≠pb∧v.ownBlock≠some b∧6≤b) (y0 y1 y2 y3 y4 y5:Value):St (put6 w b y0 y1 y2 y3 y4 y5) base pb v T en i :=
 (((((h.put hb 0 y0).put hb 1 y1).put hb 2 y2).put hb 3 y3).put hb 4 y4).put hb 5 y5
theorem ych {w w':World} {r:Option Nat} (h:w.grownBy w' r) {b:Nat} (hb:w.heap.size≤b) (y0 y1 y2 y3 y4 y5:Value):w.grownBy (put6 w' b y0 y1 y2 y3 y4 y5) r :=
 yan (yan (yan (yan (yan (yan h hb 0 y0) hb 1 y1) hb 2 y2) hb 3 y3) hb 4 y4) hb 5 y5
theorem ExAt.put6 {B:Nat} {w:World} {u:Value} {x:Ex} (h:ExAt B w u x) {b:Nat} (hb:b < B) (y0 y1 y2 y3 y4 y5:Value):ExAt B (put6 w b y0 y1 y2 y3 y4 y5) u x :=
 (((((h.put hb 0 y0).put hb 1 y1).put hb 2 y2).put hb 3 y3).put hb 4 y4).put hb 5 y5
theorem yls {w:World} {base pb:Nat} {v:Value} {T:List Tk} {en:Int} {i:Nat} (h:St w base pb v T en i) :
  Calls Tryz.prog 150 #[.pointer (some ⟨pb,0,none⟩),.int .i64 60] w fun e w'=>Out w base pb v T en (yiS w.heap.size) (ybd T 0 i) e w':=by
 have hfr:=h.fresh (Nat.le_refl _)
 have s0:=h.alloc (.cells #[.int .i64 0,.int .i64 0,.int .i64 0,.string ⟨#[]⟩,.string ⟨#[]⟩,.slice none 0 0] 29)
 have g0:=yax (ybe w (some pb)) (.cells #[.int .i64 0,.int .i64 0,.int .i64 0,.string ⟨#[]⟩,.string ⟨#[]⟩,.slice none 0 0] 29)
 have k0:(w.alloc (.cells #[.int .i64 0,.int .i64 0,.int .i64 0,.string ⟨#[]⟩,.string ⟨#[]⟩,.slice none 0 0] 29)).heap[w.heap.size]?=some (.cells #[.int .i64 0,.int .i64 0,.int .i64 0,.string ⟨#[]⟩,.string ⟨#[]⟩,.slice none 0 0] 29):=heap_alloc_new _ _
 have t2:=yi1
 have HR:Hid (ybd T 0 i=ydX T i):=rfl
 go_enter Tryz.func150,Tryz.ntmps150
 go_wp2_with fail
 refine (ycd s0).mono ?_
 rintro e wb ⟨rfl,bb⟩
 have sb:=s0.below bb
 have kb:=(bb.block w.heap.size (ltS k0)).trans k0
 have gb:=yaa g0 (yad bb _)
 have hsz:=sb.short
 clear k0 s0 g0 bb
 go_wp2_with fail
 refine (yci _ _ (by rw [yaN];omega) sb.gl).mono ?_
 rintro e wc ⟨rfl,bc⟩
 have sc:=sb.below bc
 have kc:=(bc.block w.heap.size (ltS kb)).trans kb
 have gc:=yaa gb (yad bc _)
 clear kb sb gb bc
 cases hnm:yap (tx T i)
 ·skip
  go_wp2_with fail
  refine (ydK sc).mono ?_
  intro e wd od
  have gd:=yaa gc od.grown
  cases hv:yaJ T i with
  | bad j =>
   obtain rfl:=od.bad j hv
   exact ⟨rfl,.mkBad gd (by rw [HR.out,ydX,if_neg (by simp [hnm]),hv];rfl)⟩
  | ok x j =>
   obtain ⟨u,rfl,hu,sd⟩:=od.ok x j hv
   cases hu
   have kd_:=(od.grown.block w.heap.size (ltS kc) (by simpa using hfr.1)).trans kc
   have HL:Hid (ybd T 0 i=.ok (.mk 1 x [] []) j):=by show _=_;rw [HR.out,ydX,if_neg (by simp [hnm]),hv];rfl
   clear kc sc gc
   simp only [vlV]
   obtain ⟨⟨c0,c1,c2,c3,c4,c5⟩,f0,f1,f2,f3,f4,f5⟩:=six kd_
   have kz:=ydH kd_ (.int .i64 1) (.int .i64 x.k) (.int .i64 x.n) (.string ⟨x.s.toArray⟩) (.string ⟨#[]⟩) (.slice none 0 0)
   have sz:=sd.put6 hfr (.int .i64 1) (.int .i64 x.k) (.int .i64 x.n) (.string ⟨x.s.toArray⟩) (.string ⟨#[]⟩) (.slice none 0 0)
   have gz:=ych gd (Nat.le_refl _) (.int .i64 1) (.int .i64 x.k) (.int .i64 x.n) (.string ⟨x.s.toArray⟩) (.string ⟨#[]⟩) (.slice none 0 0)
   have hx:yiS w.heap.size (put6 wd w.heap.size (.int .i64 1) (.int .i64 x.k) (.int .i64 x.n) (.string ⟨x.s.toArray⟩) (.string ⟨#[]⟩) (.slice none 0 0)) (exV 1 x [] (.slice none 0 0)) (.mk 1 x [] []):=.nil _ _ _ _ _ (fun _=>rfl)
   clear kd_ sd gd od hv hnm HR
   go_wp2_with fail
   change bodyPost Tryz.prog Tryz.f150 _ _ _ (put6 wd w.heap.size (.int .i64 1) (.int .i64 x.k) (.int .i64 x.n) (.string ⟨x.s.toArray⟩) (.string ⟨#[]⟩) (.slice none 0 0))
   generalize put6 wd w.heap.size (.int .i64 1) (.int .i64 x.k) (.int .i64 x.n) (.string ⟨x.s.toArray⟩) (.string ⟨#[]⟩) (.slice none 0 0)=wz at *
   obtain ⟨⟨e0,e1,e2,e3,e4,e5⟩,-⟩:=six kz
   refine bodyPost_ret (v:=exV 1 x [] (.slice none 0 0)) ?_ rfl (.mkOk gz HL.out hx sz)
   simp [results,Tryz.results150,go_sem,exV,e0,e1,e2,e3,e4,e5]
 ·skip
  go_wp2_with fail
  refine (ya9 sc).mono ?_
  intro e wd od
  have gd:=yaa gc od.grown
  have hn:yau T i=.ok (tx T i) (i+1):=by rw [yau,if_pos hnm]
  obtain ⟨u,rfl,hu,sd⟩:=od.ok _ _ hn
  cases hu
  have kd_:=(od.grown.block w.heap.size (ltS kc) (by simpa using hfr.1)).trans kc
  have HL:Hid (ybd T 0 i=.ok (.mk 2 vl0 (tx T i) []) (i+1)):=by show _=_;rw [HR.out,ydX,if_pos hnm]
  clear kc sc gc hn
  obtain ⟨⟨c0,c1,c2,c3,c4,c5⟩,f0,f1,f2,f3,f4,f5⟩:=six kd_
  have kz:=ydH kd_ (.int .i64 2) (.int .i64 0) (.int .i64 0) (.string ⟨#[]⟩) (.string ⟨(tx T i).toArray⟩) (.slice none 0 0)
  have sz:=sd.put6 hfr (.int .i64 2) (.int .i64 0) (.int .i64 0) (.string ⟨#[]⟩) (.string ⟨(tx T i).toArray⟩) (.slice none 0 0)
  have gz:=ych gd (Nat.le_refl _) (.int .i64 2) (.int .i64 0) (.int .i64 0) (.string ⟨#[]⟩) (.string ⟨(tx T i).toArray⟩) (.slice none 0 0)
  have hx:yiS w.heap.size (put6 wd w.heap.size (.int .i64 2) (.int .i64 0) (.int .i64 0) (.string ⟨#[]⟩) (.string ⟨(tx T i).toArray⟩) (.slice none 0 0)) (exV 2 vl0 (tx T i) (.slice none 0 0)) (.mk 2 vl0 (tx T i) []):=.nil _ _ _ _ _ (fun _=>rfl)
  clear kd_ sd gd od hnm HR
  go_wp2_with fail
  change bodyPost Tryz.prog Tryz.f150 _ _ _ (put6 wd w.heap.size (.int .i64 2) (.int .i64 0) (.int .i64 0) (.string ⟨#[]⟩) (.string ⟨(tx T i).toArray⟩) (.slice none 0 0))
  generalize put6 wd w.heap.size (.int .i64 2) (.int .i64 0) (.int .i64 0) (.string ⟨#[]⟩) (.string ⟨(tx T i).toArray⟩) (.slice none 0 0)=wz at *
  obtain ⟨⟨e0,e1,e2,e3,e4,e5⟩,-⟩:=six kz
  refine bodyPost_ret (v:=exV 2 vl0 (tx T i) (.slice none 0 0)) ?_ rfl (.mkOk gz HL.out hx sz)
  simp [results,Tryz.results150,go_sem,exV,vl0,e0,e1,e2,e3,e4,e5]
theorem ylr {w:World} {base pb:Nat} {v:Value} {T:List Tk} {en:Int} {i:Nat} (h:St w base pb v T en i) (f:Nat) (hf:f < 60) (hn1:tx T i≠w_not) (hn2:tx T i≠[40]) :
  Calls Tryz.prog 150 #[.pointer (some ⟨pb,0,none⟩),.int .i64 ((59 - f:Nat):Int)] w fun e w'=>Out w base pb v T en (yiS w.heap.size) (ybd T (f+1) i) e w':=by
 have hfr:=h.fresh (Nat.le_refl _)
 have s0:=h.alloc (.cells #[.int .i64 0,.int .i64 0,.int .i64 0,.string ⟨#[]⟩,.string ⟨#[]⟩,.slice none 0 0] 29)
 have g0:=yax (ybe w (some pb)) (.cells #[.int .i64 0,.int .i64 0,.int .i64 0,.string ⟨#[]⟩,.string ⟨#[]⟩,.slice none 0 0] 29)
 have k0:(w.alloc (.cells #[.int .i64 0,.int .i64 0,.int .i64 0,.string ⟨#[]⟩,.string ⟨#[]⟩,.slice none 0 0] 29)).heap[w.heap.size]?=some (.cells #[.int .i64 0,.int .i64 0,.int .i64 0,.string ⟨#[]⟩,.string ⟨#[]⟩,.slice none 0 0] 29):=heap_alloc_new _ _
 have t2:=yi1
 have HR:Hid (ybd T (f+1) i=ydX T i):=by show _=_;rw [ybd,if_neg hn1,if_neg hn2]
 have hm:((59 - f:Nat):Int) < 60:=by omega
 have hl:59 - f < 60:=by omega
 generalize ((59 - f:Nat):Int)=m at hm ⊢
 have m1:=yc0 s0 w_not (by decide)
 simp only [hn1,if_false,decide_false] at m1
 go_enter Tryz.func150,Tryz.ntmps150
 go_wp2_with fail
 refine m1.mono ?_
 rintro e w1 ⟨rfl,g1',s1⟩
 have k1:=(g1'.block w.heap.size (ltS k0) (by simpa using hfr.1)).trans k0
 have g1:=yaa g0 g1'
 have m2:=yc0 s1 [40] (by decide)
 simp only [hn2,if_false,decide_false] at m2
 clear m1 g1' k0 s0 g0
 go_wp2_with fail
 refine m2.mono ?_
 rintro e w2 ⟨rfl,g2',s2⟩
 have k2:=(g2'.block w.heap.size (ltS k1) (by simpa using hfr.1)).trans k1
 have g2:=yaa g1 g2'
 clear m2 g2' k1 s1 g1 hn1 hn2 hl
 go_wp2_with fail
 refine (ycd s2).mono ?_
 rintro e wb ⟨rfl,bb⟩
 have sb:=s2.below bb
 have kb:=(bb.block w.heap.size (ltS k2)).trans k2
 have gb:=yaa g2 (yad bb _)
 have hsz:=sb.short
 clear k2 s2 g2 bb
 go_wp2_with fail
 refine (yci _ _ (by rw [yaN];omega) sb.gl).mono ?_
 rintro e wc ⟨rfl,bc⟩
 have sc:=sb.below bc
 have kc:=(bc.block w.heap.size (ltS kb)).trans kb
 have gc:=yaa gb (yad bc _)
 clear kb sb gb bc
 cases hnm:yap (tx T i)
 ·skip
  go_wp2_with fail
  refine (ydK sc).mono ?_
  intro e wd od
  have gd:=yaa gc od.grown
  cases hv:yaJ T i with
  | bad j =>
   obtain rfl:=od.bad j hv
   exact ⟨rfl,.mkBad gd (by rw [HR.out,ydX,if_neg (by simp [hnm]),hv];rfl)⟩
  | ok x j =>
   obtain ⟨u,rfl,hu,sd⟩:=od.ok x j hv
   cases hu
   have kd_:=(od.grown.block w.heap.size (ltS kc) (by simpa using hfr.1)).trans kc
   have HL:Hid (ybd T (f+1) i=.ok (.mk 1 x [] []) j):=by show _=_;rw [HR.out,ydX,if_neg (by simp [hnm]),hv];rfl
   clear kc sc gc
   simp only [vlV]
   obtain ⟨⟨c0,c1,c2,c3,c4,c5⟩,f0,f1,f2,f3,f4,f5⟩:=six kd_
   have kz:=ydH kd_ (.int .i64 1) (.int .i64 x.k) (.int .i64 x.n) (.string ⟨x.s.toArray⟩) (.string ⟨#[]⟩) (.slice none 0 0)
   have sz:=sd.put6 hfr (.int .i64 1) (.int .i64 x.k) (.int .i64 x.n) (.string ⟨x.s.toArray⟩) (.string ⟨#[]⟩) (.slice none 0 0)
   have gz:=ych gd (Nat.le_refl _) (.int .i64 1) (.int .i64 x.k) (.int .i64 x.n) (.string ⟨x.s.toArray⟩) (.string ⟨#[]⟩) (.slice none 0 0)
   have hx:yiS w.heap.size (put6 wd w.heap.size (.int .i64 1) (.int .i64 x.k) (.int .i64 x.n) (.string ⟨x.s.toArray⟩) (.string ⟨#[]⟩) (.slice none 0 0)) (exV 1 x [] (.slice none 0 0)) (.mk 1 x [] []):=.nil _ _ _ _ _ (fun _=>rfl)
   clear kd_ sd gd od hv hnm HR
   go_wp2_with fail
   change bodyPost Tryz.prog Tryz.f150 _ _ _ (put6 wd w.heap.size (.int .i64 1) (.int .i64 x.k) (.int .i64 x.n) (.string ⟨x.s.toArray⟩) (.string ⟨#[]⟩) (.slice none 0 0))
   generalize put6 wd w.heap.size (.int .i64 1) (.int .i64 x.k) (.int .i64 x.n) (.string ⟨x.s.toArray⟩) (.string ⟨#[]⟩) (.slice none 0 0)=wz at *
   obtain ⟨⟨e0,e1,e2,e3,e4,e5⟩,-⟩:=six kz
   refine bodyPost_ret (v:=exV 1 x [] (.slice none 0 0)) ?_ rfl (.mkOk gz HL.out hx sz)
   simp [results,Tryz.results150,go_sem,exV,e0,e1,e2,e3,e4,e5]
 ·skip
  go_wp2_with fail
  refine (ya9 sc).mono ?_
  intro e wd od
  have gd:=yaa gc od.grown
  have hn:yau T i=.ok (tx T i) (i+1):=by rw [yau,if_pos hnm]
  obtain ⟨u,rfl,hu,sd⟩:=od.ok _ _ hn
  cases hu
  have kd_:=(od.grown.block w.heap.size (ltS kc) (by simpa using hfr.1)).trans kc
  have HL:Hid (ybd T (f+1) i=.ok (.mk 2 vl0 (tx T i) []) (i+1)):=by show _=_;rw [HR.out,ydX,if_pos hnm]
  clear kc sc gc hn
  obtain ⟨⟨c0,c1,c2,c3,c4,c5⟩,f0,f1,f2,f3,f4,f5⟩:=six kd_
  have kz:=ydH kd_ (.int .i64 2) (.int .i64 0) (.int .i64 0) (.string ⟨#[]⟩) (.string ⟨(tx T i).toArray⟩) (.slice none 0 0)
  have sz:=sd.put6 hfr (.int .i64 2) (.int .i64 0) (.int .i64 0) (.string ⟨#[]⟩) (.string ⟨(tx T i).toArray⟩) (.slice none 0 0)
  have gz:=ych gd (Nat.le_refl _) (.int .i64 2) (.int .i64 0) (.int .i64 0) (.string ⟨#[]⟩) (.string ⟨(tx T i).toArray⟩) (.slice none 0 0)
  have hx:yiS w.heap.size (put6 wd w.heap.size (.int .i64 2) (.int .i64 0) (.int .i64 0) (.string ⟨#[]⟩) (.string ⟨(tx T i).toArray⟩) (.slice none 0 0)) (exV 2 vl0 (tx T i) (.slice none 0 0)) (.mk 2 vl0 (tx T i) []):=.nil _ _ _ _ _ (fun _=>rfl)
  clear kd_ sd gd od hnm HR
  go_wp2_with fail
  change bodyPost Tryz.prog Tryz.f150 _ _ _ (put6 wd w.heap.size (.int .i64 2) (.int .i64 0) (.int .i64 0) (.string ⟨#[]⟩) (.string ⟨(tx T i).toArray⟩) (.slice none 0 0))
  generalize put6 wd w.heap.size (.int .i64 2) (.int .i64 0) (.int .i64 0) (.string ⟨#[]⟩) (.string ⟨(tx T i).toArray⟩) (.slice none 0 0)=wz at *
  obtain ⟨⟨e0,e1,e2,e3,e4,e5⟩,-⟩:=six kz
  refine bodyPost_ret (v:=exV 2 vl0 (tx T i) (.slice none 0 0)) ?_ rfl (.mkOk gz HL.out hx sz)
  simp [results,Tryz.results150,go_sem,exV,vl0,e0,e1,e2,e3,e4,e5]
theorem yn0 {w:World} {base pb:Nat} {v:Value} {T:List Tk} {en:Int} {i:Nat} (h:St w base pb v T en i) (f:Nat) (hf:f < 60) (hn1:tx T i=w_not)
  (ih:∀ (W:World) (i:Nat),St W base pb v T en i→Calls Tryz.prog 150 #[.pointer (some ⟨pb,0,none⟩),.int .i64 ((60 - f:Nat):Int)] W fun e w'=>Out W base pb v T en (yiS W.heap.size) (ybd T f i) e w') :
  Calls Tryz.prog 150 #[.pointer (some ⟨pb,0,none⟩),.int .i64 ((59 - f:Nat):Int)] w fun e w'=>Out w base pb v T en (yiS w.heap.size) (ybd T (f+1) i) e w':=by
 have hfr:=h.fresh (Nat.le_refl _)
 have s0:=h.alloc (.cells #[.int .i64 0,.int .i64 0,.int .i64 0,.string ⟨#[]⟩,.string ⟨#[]⟩,.slice none 0 0] 29)
 have g0:=yax (ybe w (some pb)) (.cells #[.int .i64 0,.int .i64 0,.int .i64 0,.string ⟨#[]⟩,.string ⟨#[]⟩,.slice none 0 0] 29)
 have k0:(w.alloc (.cells #[.int .i64 0,.int .i64 0,.int .i64 0,.string ⟨#[]⟩,.string ⟨#[]⟩,.slice none 0 0] 29)).heap[w.heap.size]?=some (.cells #[.int .i64 0,.int .i64 0,.int .i64 0,.string ⟨#[]⟩,.string ⟨#[]⟩,.slice none 0 0] 29):=heap_alloc_new _ _
 have t2:=yi1
 have HR:Hid (ybd T (f+1) i=(ybd T f (i+1)).then fun a j=>.ok (.mk 3 vl0 [] [a]) j):=by show _=_;rw [ybd,if_pos hn1]
 have hm:((59 - f:Nat):Int) < 60:=by omega
 have hm0:0≤((59 - f:Nat):Int):=by omega
 have hm1:((60 - f:Nat):Int)=((59 - f:Nat):Int)+1:=by omega
 rw [hm1] at ih
 generalize ((59 - f:Nat):Int)=m at hm hm0 ih ⊢
 have m1:=yc0 s0 w_not (by decide)
 simp only [hn1,if_true,decide_true] at m1
 clear hm1 hn1 hf
 go_enter Tryz.func150,Tryz.ntmps150
 go_wp2_with fail
 refine m1.mono ?_
 rintro e wb ⟨rfl,gb',sb⟩
 have kb:=(gb'.block w.heap.size (ltS k0) (by simpa using hfr.1)).trans k0
 have gb:=yaa g0 gb'
 have hwb:=(ltS kb)
 clear m1 gb' k0 s0 g0
 go_wp2_with fail
 refine (ih _ _ sb).mono ?_
 intro e wc oc
 have gc:=yaa gb oc.grown
 have gc2:=oc.grown
 cases hy:ybd T f (i+1) with
 | bad j =>
  obtain rfl:=oc.bad j hy
  exact ⟨rfl,.mkBad gc (by rw [HR.out,hy];rfl)⟩
 | ok y j =>
  obtain ⟨u,rfl,xc,sc⟩:=oc.ok y j hy
  obtain ⟨k,x,nm,ao,na,ca,rfl⟩:=ExAt.form xc
  have kc:=(gc2.block w.heap.size hwb (by simpa using hfr.1)).trans kb
  have HL:Hid (ybd T (f+1) i=.ok (.mk 3 vl0 [] [y]) j):=by show _=_;rw [HR.out,hy];rfl
  have xc:ExAt wb.heap.size wc (exV k x nm (.slice ao na ca)) y:=xc
  clear kb sb HR ih
  rw [exV]
  obtain ⟨⟨c0,c1,c2,c3,c4,c5⟩,f0,f1,f2,f3,f4,f5⟩:=six kc
  have kz:=ydH kc (.int .i64 3) (.int .i64 0) (.int .i64 0) (.string ⟨#[]⟩) (.string ⟨#[]⟩) (.slice (some ⟨wc.heap.size,0,none⟩) 1 1)
  have sz:=sc.put6 hfr (.int .i64 3) (.int .i64 0) (.int .i64 0) (.string ⟨#[]⟩) (.string ⟨#[]⟩) (.slice (some ⟨wc.heap.size,0,none⟩) 1 1)
  have gz:=ych gc (Nat.le_refl _) (.int .i64 3) (.int .i64 0) (.int .i64 0) (.string ⟨#[]⟩) (.string ⟨#[]⟩) (.slice (some ⟨wc.heap.size,0,none⟩) 1 1)
  have hsz:=yfy wc w.heap.size (.int .i64 3) (.int .i64 0) (.int .i64 0) (.string ⟨#[]⟩) (.string ⟨#[]⟩) (.slice (some ⟨wc.heap.size,0,none⟩) 1 1)
  have hrb:=(ltS kz)
  have hrw:=(ltS kc)
  have xcz:=xc.put6 hwb (.int .i64 3) (.int .i64 0) (.int .i64 0) (.string ⟨#[]⟩) (.string ⟨#[]⟩) (.slice (some ⟨wc.heap.size,0,none⟩) 1 1)
  clear oc hy
  go_wp2_with fail
  change bodyPost Tryz.prog Tryz.f150 _ _ _ ((put6 wc w.heap.size (.int .i64 3) (.int .i64 0) (.int .i64 0) (.string ⟨#[]⟩) (.string ⟨#[]⟩) (.slice (some ⟨wc.heap.size,0,none⟩) 1 1)).alloc (.cells #[.int .i64 k,.int .i64 x.k,.int .i64 x.n,.string ⟨x.s.toArray⟩,.string ⟨nm.toArray⟩,.slice ao na ca] 29))
  generalize put6 wc w.heap.size (.int .i64 3) (.int .i64 0) (.int .i64 0) (.string ⟨#[]⟩) (.string ⟨#[]⟩) (.slice (some ⟨wc.heap.size,0,none⟩) 1 1)=wz at *
  obtain ⟨⟨e0,e1,e2,e3,e4,e5⟩,-⟩:=six kz
  refine bodyPost_ret (v:=exV 3 vl0 [] (.slice (some ⟨wc.heap.size,0,none⟩) 1 1)) ?_ rfl (.mkOk (yax gz _) HL.out (by rw [← hsz];exact (yi8 (heap_alloc_new wz _) (by rw [hsz];exact gc2.size) (xcz.alloc _) 3 1).weak gb.size) (sz.alloc _))
  simp [results,Tryz.results150,go_sem,exV,vl0,e0,e1,e2,e3,e4,e5,hrb]
theorem yh2 {w:World} {base pb:Nat} {v:Value} {T:List Tk} {en:Int} {i:Nat} (h:St w base pb v T en i) (m:Int) (f:Nat)
  (ih:∀ (W:World) (i:Nat),St W base pb v T en i→Calls Tryz.prog 150 #[.pointer (some ⟨pb,0,none⟩),.int .i64 m] W fun e w'=>Out W base pb v T en (yiS W.heap.size) (ybd T f i) e w') :
  Calls Tryz.prog 173 #[.pointer (some ⟨pb,0,none⟩),.int .i64 m] w fun e w'=>Out w base pb v T en (yiS w.heap.size) (ycH T (ybd T f) i) e w':=by
 have hfr:=h.fresh (Nat.le_refl _)
 have s0:=h.alloc (.cells #[.int .i64 0,.int .i64 0,.int .i64 0,.string ⟨#[]⟩,.string ⟨#[]⟩,.slice none 0 0] 29)
 have g0:=yax (ybe w (some pb)) (.cells #[.int .i64 0,.int .i64 0,.int .i64 0,.string ⟨#[]⟩,.string ⟨#[]⟩,.slice none 0 0] 29)
 have k0:(w.alloc (.cells #[.int .i64 0,.int .i64 0,.int .i64 0,.string ⟨#[]⟩,.string ⟨#[]⟩,.slice none 0 0] 29)).heap[w.heap.size]?=some (.cells #[.int .i64 0,.int .i64 0,.int .i64 0,.string ⟨#[]⟩,.string ⟨#[]⟩,.slice none 0 0] 29):=heap_alloc_new _ _
 have hrB:w.heap.size < (w.alloc (.cells #[.int .i64 0,.int .i64 0,.int .i64 0,.string ⟨#[]⟩,.string ⟨#[]⟩,.slice none 0 0] 29)).heap.size:=by simp
 have hBw:w.heap.size≤(w.alloc (.cells #[.int .i64 0,.int .i64 0,.int .i64 0,.string ⟨#[]⟩,.string ⟨#[]⟩,.slice none 0 0] 29)).heap.size:=by simp
 have hpB:pb < (w.alloc (.cells #[.int .i64 0,.int .i64 0,.int .i64 0,.string ⟨#[]⟩,.string ⟨#[]⟩,.slice none 0 0] 29)).heap.size:=by have:=h.heapLt;simp;omega
 have ih0:=ih _ _ s0
 generalize hB1:(w.alloc (.cells #[.int .i64 0,.int .i64 0,.int .i64 0,.string ⟨#[]⟩,.string ⟨#[]⟩,.slice none 0 0] 29)).heap.size=B1 at hrB hBw hpB
 go_enter Tryz.func173,Tryz.ntmps173
 go_wp2_with fail
 refine ih0.mono ?_
 intro e wa oa
 have ga:=yaa g0 oa.grown
 have ga':=oa.grown
 cases hy:ybd T f i with
 | bad j =>
  obtain rfl:=oa.bad j hy
  exact ⟨rfl,.mkBad ga (by rw [ycH,hy];rfl)⟩
 | ok y j =>
  obtain ⟨u,rfl,xa,sa⟩:=oa.ok y j hy
  obtain ⟨k,x,nm,ao,na,ca,rfl⟩:=ExAt.form xa
  have xa:ExAt (w.alloc (.cells #[.int .i64 0,.int .i64 0,.int .i64 0,.string ⟨#[]⟩,.string ⟨#[]⟩,.slice none 0 0] 29)).heap.size wa (exV k x nm (.slice ao na ca)) y:=xa
  rw [hB1] at xa
  have ka:=(ga'.block _ (ltS k0) (by simpa using hfr.1)).trans k0
  have hBa:B1≤wa.heap.size:=by rw [← hB1];exact ga'.size
  have sa1:=sa.alloc (.cells #[.int .i64 k,.int .i64 x.k,.int .i64 x.n,.string ⟨x.s.toArray⟩,.string ⟨nm.toArray⟩,.slice ao na ca] 29)
  have ka1:=(((Below.refl wa.heap.size wa).alloc (Nat.le_refl _) (.cells #[.int .i64 k,.int .i64 x.k,.int .i64 x.n,.string ⟨x.s.toArray⟩,.string ⟨nm.toArray⟩,.slice ao na ca] 29)).block _ (ltS ka)).trans ka
  have ga1:=yax ga (.cells #[.int .i64 k,.int .i64 x.k,.int .i64 x.n,.string ⟨x.s.toArray⟩,.string ⟨nm.toArray⟩,.slice ao na ca] 29)
  have xa1:=xa.alloc (.cells #[.int .i64 k,.int .i64 x.k,.int .i64 x.n,.string ⟨x.s.toArray⟩,.string ⟨nm.toArray⟩,.slice ao na ca] 29)
  have k5:=heap_alloc_new wa (.cells #[.int .i64 k,.int .i64 x.k,.int .i64 x.n,.string ⟨x.s.toArray⟩,.string ⟨nm.toArray⟩,.slice ao na ca] 29)
  have h5:wa.heap.size≠pb:=(sa.fresh (Nat.le_refl _)).1
  have h56:wa.heap.size≠w.heap.size:=by have:=(ltS ka);omega
  have HY:Hid (ybd T f i=.ok y j):=hy
  clear oa ga' ka ga xa s0 k0 g0 ih0 hy
  rw [exV]
  go_wp2_with fail
  refine (yiu sa1 w_is (by decide) [w_null,[41]] 2 _ (by simp) _ (by rfl) (by rfl) (by decide) (by decide)).mono ?_
  intro e wb ob
  have gb:=yaa ga1 ob.grown
  have kb:=(ob.grown.block _ (ltS ka1) (by simpa using hfr.1)).trans ka1
  have k5b:=(ob.grown.block _ (ltS k5) (by simpa using h5)).trans k5
  have xb:=xa1.grown hpB ob.grown
  have hB1b:B1≤wb.heap.size:=by have:=ob.grown.size;simp at this;omega
  cases hb0:may T w_is [w_null,[41]] j with
  | bad j2 =>
   obtain rfl:=ob.bad j2 hb0
   exact ⟨rfl,.mkBad gb (by rw [ycH,HY.out,Rs.then_ok,hb0];rfl)⟩
  | ok t j2 =>
   obtain ⟨u,rfl,hu,sb⟩:=ob.ok t j2 hb0
   cases hu
   obtain ⟨⟨p0,p1,p2,p3,p4,p5⟩,-⟩:=six k5b
   clear sa1 ka1 ga1 xa1 k5 sa
   cases t with
   | true =>
    have HL:Hid (ycH T (ybd T f) i=.ok (.mk 4 vl0 [] [y]) j2):=by show _=_;rw [ycH,HY.out,Rs.then_ok,hb0];rfl
    clear HY ih
    obtain ⟨⟨c0,c1,c2,c3,c4,c5⟩,f0,f1,f2,f3,f4,f5⟩:=six kb
    have kz:=ydH kb (.int .i64 4) (.int .i64 0) (.int .i64 0) (.string ⟨#[]⟩) (.string ⟨#[]⟩) (.slice (some ⟨wb.heap.size,0,none⟩) 1 1)
    have sz:=sb.put6 hfr (.int .i64 4) (.int .i64 0) (.int .i64 0) (.string ⟨#[]⟩) (.string ⟨#[]⟩) (.slice (some ⟨wb.heap.size,0,none⟩) 1 1)
    have gz:=ych gb (Nat.le_refl _) (.int .i64 4) (.int .i64 0) (.int .i64 0) (.string ⟨#[]⟩) (.string ⟨#[]⟩) (.slice (some ⟨wb.heap.size,0,none⟩) 1 1)
    have hsz:=yfy wb w.heap.size (.int .i64 4) (.int .i64 0) (.int .i64 0) (.string ⟨#[]⟩) (.string ⟨#[]⟩) (.slice (some ⟨wb.heap.size,0,none⟩) 1 1)
    have hrb:=(ltS kz)
    have hrw:=(ltS kb)
    have xbz:=xb.put6 hrB (.int .i64 4) (.int .i64 0) (.int .i64 0) (.string ⟨#[]⟩) (.string ⟨#[]⟩) (.slice (some ⟨wb.heap.size,0,none⟩) 1 1)
    clear ob hb0
    go_wp2_with fail
    change bodyPost Tryz.prog Tryz.f173 _ _ _ ((put6 wb w.heap.size (.int .i64 4) (.int .i64 0) (.int .i64 0) (.string ⟨#[]⟩) (.string ⟨#[]⟩) (.slice (some ⟨wb.heap.size,0,none⟩) 1 1)).alloc (.cells #[.int .i64 k,.int .i64 x.k,.int .i64 x.n,.string ⟨x.s.toArray⟩,.string ⟨nm.toArray⟩,.slice ao na ca] 29))
    generalize put6 wb w.heap.size (.int .i64 4) (.int .i64 0) (.int .i64 0) (.string ⟨#[]⟩) (.string ⟨#[]⟩) (.slice (some ⟨wb.heap.size,0,none⟩) 1 1)=wz at *
    obtain ⟨⟨e0,e1,e2,e3,e4,e5⟩,-⟩:=six kz
    refine bodyPost_ret (v:=exV 4 vl0 [] (.slice (some ⟨wb.heap.size,0,none⟩) 1 1)) ?_ rfl (.mkOk (yax gz _) HL.out (by rw [← hsz];exact (yi8 (heap_alloc_new wz _) (by rw [hsz];exact hB1b) (xbz.alloc _) 4 1).weak hBw) (sz.alloc _))
    simp [results,Tryz.results173,go_sem,exV,vl0,e0,e1,e2,e3,e4,e5,hrb]
   | false =>
    have HY2:Hid (ycH T (ybd T f) i=(ycj T (ybx ya0) j2).then fun k j=>(ybd T f j).then fun b j=>(ybl T [[41]] j).then fun _ j=>.ok (.mk (k:Nat) vl0 [] [y,b]) j):=by
     show _=_;rw [ycH,HY.out,Rs.then_ok,hb0];rfl
    clear HY ob hb0 p0 p1 p2 p3 p4 p5
    go_wp2_with fail
    refine (yip sb).mono ?_
    intro e wc oc
    have gc:=yaa gb oc.grown
    have kc:=(oc.grown.block _ (ltS kb) (by simpa using hfr.1)).trans kb
    have k5c:=(oc.grown.block _ (ltS k5b) (by simpa using h5)).trans k5b
    have xc:=xb.grown hpB oc.grown
    have hB1c:B1≤wc.heap.size:=Nat.le_trans hB1b oc.grown.size
    cases hk:ycj T (ybx ya0) j2 with
    | bad j3 =>
     obtain rfl:=oc.bad j3 hk
     exact ⟨rfl,.mkBad gc (by rw [HY2.out,hk];rfl)⟩
    | ok kk j3 =>
     obtain ⟨u,rfl,hu,sc⟩:=oc.ok kk j3 hk
     cases hu
     have HY3:Hid (ycH T (ybd T f) i=(ybd T f j3).then fun b j=>(ybl T [[41]] j).then fun _ j=>.ok (.mk (kk:Nat) vl0 [] [y,b]) j):=by
      show _=_;rw [HY2.out,hk];rfl
     have ih1:=ih _ _ sc
     clear HY2 oc hk kb k5b xb sb gb hB1b
     go_wp2_with fail
     refine ih1.mono ?_
     intro e wd od
     have gd:=yaa gc od.grown
     have kd_:=(od.grown.block _ (ltS kc) (by simpa using hfr.1)).trans kc
     have k5d:=(od.grown.block _ (ltS k5c) (by simpa using h5)).trans k5c
     have xd:=xc.grown hpB od.grown
     have hB1d:B1≤wd.heap.size:=Nat.le_trans hB1c od.grown.size
     cases hz:ybd T f j3 with
     | bad j4 =>
      obtain rfl:=od.bad j4 hz
      exact ⟨rfl,.mkBad gd (by rw [HY3.out,hz];rfl)⟩
     | ok z j4 =>
      obtain ⟨u,rfl,xd2,sd⟩:=od.ok z j4 hz
      obtain ⟨k2,x2,nm2,ao2,na2,ca2,rfl⟩:=ExAt.form xd2
      have xd2:ExAt B1 wd (exV k2 x2 nm2 (.slice ao2 na2 ca2)) z:=ExAt.weak xd2 hB1c
      have HY4:Hid (ycH T (ybd T f) i=(ybl T [[41]] j4).then fun _ j=>.ok (.mk (kk:Nat) vl0 [] [y,z]) j):=by
       show _=_;rw [HY3.out,hz];rfl
      have sd1:=sd.alloc (.cells #[.int .i64 k2,.int .i64 x2.k,.int .i64 x2.n,.string ⟨x2.s.toArray⟩,.string ⟨nm2.toArray⟩,.slice ao2 na2 ca2] 29)
      have kd1:=(((Below.refl wd.heap.size wd).alloc (Nat.le_refl _) (.cells #[.int .i64 k2,.int .i64 x2.k,.int .i64 x2.n,.string ⟨x2.s.toArray⟩,.string ⟨nm2.toArray⟩,.slice ao2 na2 ca2] 29)).block _ (ltS kd_)).trans kd_
      have k5d1:=(((Below.refl wd.heap.size wd).alloc (Nat.le_refl _) (.cells #[.int .i64 k2,.int .i64 x2.k,.int .i64 x2.n,.string ⟨x2.s.toArray⟩,.string ⟨nm2.toArray⟩,.slice ao2 na2 ca2] 29)).block _ (ltS k5d)).trans k5d
      have gd1:=yax gd (.cells #[.int .i64 k2,.int .i64 x2.k,.int .i64 x2.n,.string ⟨x2.s.toArray⟩,.string ⟨nm2.toArray⟩,.slice ao2 na2 ca2] 29)
      have xd1:=xd.alloc (.cells #[.int .i64 k2,.int .i64 x2.k,.int .i64 x2.n,.string ⟨x2.s.toArray⟩,.string ⟨nm2.toArray⟩,.slice ao2 na2 ca2] 29)
      have xd21:=xd2.alloc (.cells #[.int .i64 k2,.int .i64 x2.k,.int .i64 x2.n,.string ⟨x2.s.toArray⟩,.string ⟨nm2.toArray⟩,.slice ao2 na2 ca2] 29)
      have k7:=heap_alloc_new wd (.cells #[.int .i64 k2,.int .i64 x2.k,.int .i64 x2.n,.string ⟨x2.s.toArray⟩,.string ⟨nm2.toArray⟩,.slice ao2 na2 ca2] 29)
      have h7:wd.heap.size≠pb:=(sd.fresh (Nat.le_refl _)).1
      have h76:wd.heap.size≠w.heap.size:=by have:=(ltS kd_);omega
      clear HY3 od hz kc k5c xc sc gc hB1c ih1 ih kd_ k5d xd xd2
      rw [exV]
      go_wp2_with fail
      refine (ybz sd1 [[41]] 1 _ (by simp) _ (by rfl) (by rfl) (by decide) (by decide)).mono ?_
      intro e we oe
      have ge:=yaa gd1 oe.grown
      have ke:=(oe.grown.block _ (ltS kd1) (by simpa using hfr.1)).trans kd1
      have k5e:=(oe.grown.block _ (ltS k5d1) (by simpa using h5)).trans k5d1
      have k7e:=(oe.grown.block _ (ltS k7) (by simpa using h7)).trans k7
      have xe:=xd1.grown hpB oe.grown
      have xe2:=xd21.grown hpB oe.grown
      have hB1e:B1≤we.heap.size:=by have:=oe.grown.size;simp at this;omega
      cases he0:ybl T [[41]] j4 with
      | bad j5 =>
       obtain rfl:=oe.bad j5 he0
       exact ⟨rfl,.mkBad ge (by rw [HY4.out,he0];rfl)⟩
      | ok t5 j5 =>
       obtain ⟨u,rfl,hu,se⟩:=oe.ok t5 j5 he0
       obtain ⟨⟨p0,p1,p2,p3,p4,p5⟩,-⟩:=six k5e
       obtain ⟨⟨q0,q1,q2,q3,q4,q5⟩,-⟩:=six k7e
       have HL:Hid (ycH T (ybd T f) i=.ok (.mk (kk:Nat) vl0 [] [y,z]) j5):=by show _=_;rw [HY4.out,he0];rfl
       clear HY4 sd1 kd1 k5d1 gd1 xd1 xd21 k7 sd gd
       obtain ⟨⟨c0,c1,c2,c3,c4,c5⟩,f0,f1,f2,f3,f4,f5⟩:=six ke
       have kz:=ydH ke (.int .i64 (kk:Int)) (.int .i64 0) (.int .i64 0) (.string ⟨#[]⟩) (.string ⟨#[]⟩) (.slice (some ⟨we.heap.size,0,none⟩) 2 2)
       have sz:=se.put6 hfr (.int .i64 (kk:Int)) (.int .i64 0) (.int .i64 0) (.string ⟨#[]⟩) (.string ⟨#[]⟩) (.slice (some ⟨we.heap.size,0,none⟩) 2 2)
       have gz:=ych ge (Nat.le_refl _) (.int .i64 (kk:Int)) (.int .i64 0) (.int .i64 0) (.string ⟨#[]⟩) (.string ⟨#[]⟩) (.slice (some ⟨we.heap.size,0,none⟩) 2 2)
       have hsz:=yfy we w.heap.size (.int .i64 (kk:Int)) (.int .i64 0) (.int .i64 0) (.string ⟨#[]⟩) (.string ⟨#[]⟩) (.slice (some ⟨we.heap.size,0,none⟩) 2 2)
       have hrb:=(ltS kz)
       have hrw:=(ltS ke)
       have xez:=xe.put6 hrB (.int .i64 (kk:Int)) (.int .i64 0) (.int .i64 0) (.string ⟨#[]⟩) (.string ⟨#[]⟩) (.slice (some ⟨we.heap.size,0,none⟩) 2 2)
       have xe2z:=xe2.put6 hrB (.int .i64 (kk:Int)) (.int .i64 0) (.int .i64 0) (.string ⟨#[]⟩) (.string ⟨#[]⟩) (.slice (some ⟨we.heap.size,0,none⟩) 2 2)
       clear oe he0
       go_wp2_with fail
       change bodyPost Tryz.prog Tryz.f173 _ _ _ ((put6 we w.heap.size (.int .i64 (kk:Int)) (.int .i64 0) (.int .i64 0) (.string ⟨#[]⟩) (.string ⟨#[]⟩) (.slice (some ⟨we.heap.size,0,none⟩) 2 2)).alloc (.cells #[.int .i64 k,.int .i64 x.k,.int .i64 x.n,.string ⟨x.s.toArray⟩,.string ⟨nm.toArray⟩,.slice ao na ca,.int .i64 k2,.int .i64 x2.k,.int .i64 x2.n,.string ⟨x2.s.toArray⟩,.string ⟨nm2.toArray⟩,.slice ao2 na2 ca2] 29))
       generalize put6 we w.heap.size (.int .i64 (kk:Int)) (.int .i64 0) (.int .i64 0) (.string ⟨#[]⟩) (.string ⟨#[]⟩) (.slice (some ⟨we.heap.size,0,none⟩) 2 2)=wz at *
       obtain ⟨⟨e0,e1,e2,e3,e4,e5⟩,-⟩:=six kz
       refine bodyPost_ret (v:=exV (kk:Nat) vl0 [] (.slice (some ⟨we.heap.size,0,none⟩) 2 2)) ?_ rfl (.mkOk (yax gz _) HL.out (by rw [← hsz];exact (ylq (heap_alloc_new wz _) (by rw [hsz];exact hB1e) (xez.alloc _) (xe2z.alloc _) (kk:Nat) 2).weak hBw) (sz.alloc _))
       simp [results,Tryz.results173,go_sem,exV,vl0,e0,e1,e2,e3,e4,e5,hrb]
theorem ynZ {w:World} {base pb:Nat} {v:Value} {T:List Tk} {en:Int} {i:Nat} (h:St w base pb v T en i) (f:Nat) (hf:f < 60) (hn2:tx T i=[40])
  (ih:∀ (W:World) (i:Nat),St W base pb v T en i→Calls Tryz.prog 173 #[.pointer (some ⟨pb,0,none⟩),.int .i64 ((60 - f:Nat):Int)] W fun e w'=>Out W base pb v T en (yiS W.heap.size) (ycH T (ybd T f) i) e w') :
  Calls Tryz.prog 150 #[.pointer (some ⟨pb,0,none⟩),.int .i64 ((59 - f:Nat):Int)] w fun e w'=>Out w base pb v T en (yiS w.heap.size) (ybd T (f+1) i) e w':=by
 have hfr:=h.fresh (Nat.le_refl _)
 have s0:=h.alloc (.cells #[.int .i64 0,.int .i64 0,.int .i64 0,.string ⟨#[]⟩,.string ⟨#[]⟩,.slice none 0 0] 29)
 have g0:=yax (ybe w (some pb)) (.cells #[.int .i64 0,.int .i64 0,.int .i64 0,.string ⟨#[]⟩,.string ⟨#[]⟩,.slice none 0 0] 29)
 have k0:(w.alloc (.cells #[.int .i64 0,.int .i64 0,.int .i64 0,.string ⟨#[]⟩,.string ⟨#[]⟩,.slice none 0 0] 29)).heap[w.heap.size]?=some (.cells #[.int .i64 0,.int .i64 0,.int .i64 0,.string ⟨#[]⟩,.string ⟨#[]⟩,.slice none 0 0] 29):=heap_alloc_new _ _
 have hn1:tx T i≠w_not:=by rw [hn2];decide
 have HR:Hid (ybd T (f+1) i=ycH T (ybd T f) (i+1)):=by show _=_;rw [ybd,if_neg hn1,if_pos hn2]
 have hm:((59 - f:Nat):Int) < 60:=by omega
 have hm0:0≤((59 - f:Nat):Int):=by omega
 have hm1:((60 - f:Nat):Int)=((59 - f:Nat):Int)+1:=by omega
 rw [hm1] at ih
 generalize ((59 - f:Nat):Int)=m at hm hm0 ih ⊢
 have m1:=yc0 s0 w_not (by decide)
 simp only [hn1,if_false,decide_false] at m1
 clear hm1 hf
 go_enter Tryz.func150,Tryz.ntmps150
 go_wp2_with fail
 refine m1.mono ?_
 rintro e wb ⟨rfl,gb',sb⟩
 have kb:=(gb'.block w.heap.size (ltS k0) (by simpa using hfr.1)).trans k0
 have gb:=yaa g0 gb'
 have m2:=yc0 sb [40] (by decide)
 simp only [hn2,if_true,decide_true] at m2
 clear m1 gb' k0 s0 g0 hn1 hn2
 go_wp2_with fail
 refine m2.mono ?_
 rintro e wc ⟨rfl,gc',sc⟩
 have kc:=(gc'.block w.heap.size (ltS kb) (by simpa using hfr.1)).trans kb
 have gc:=yaa gb gc'
 have hwc:=(ltS kc)
 clear m2 gc' kb sb gb
 go_wp2_with fail
 refine (ih _ _ sc).mono ?_
 intro e wd od
 have gd:=yaa gc od.grown
 cases hy:ycH T (ybd T f) (i+1) with
 | bad j =>
  obtain rfl:=od.bad j hy
  exact ⟨rfl,.mkBad gd (by rw [HR.out,hy])⟩
 | ok y j =>
  obtain ⟨u,rfl,xd,sd⟩:=od.ok y j hy
  obtain ⟨k,x,nm,ao,na,ca,rfl⟩:=ExAt.form xd
  have kd_:=(od.grown.block w.heap.size hwc (by simpa using hfr.1)).trans kc
  have HL:Hid (ybd T (f+1) i=.ok y j):=by show _=_;rw [HR.out,hy]
  have xd:ExAt wc.heap.size wd (exV k x nm (.slice ao na ca)) y:=xd
  clear kc sc HR ih
  rw [exV]
  obtain ⟨⟨c0,c1,c2,c3,c4,c5⟩,f0,f1,f2,f3,f4,f5⟩:=six kd_
  have kz:=ydH kd_ (.int .i64 k) (.int .i64 x.k) (.int .i64 x.n) (.string ⟨x.s.toArray⟩) (.string ⟨nm.toArray⟩) (.slice ao na ca)
  have sz:=sd.put6 hfr (.int .i64 k) (.int .i64 x.k) (.int .i64 x.n) (.string ⟨x.s.toArray⟩) (.string ⟨nm.toArray⟩) (.slice ao na ca)
  have gz:=ych gd (Nat.le_refl _) (.int .i64 k) (.int .i64 x.k) (.int .i64 x.n) (.string ⟨x.s.toArray⟩) (.string ⟨nm.toArray⟩) (.slice ao na ca)
  have hx:yiS w.heap.size (put6 wd w.heap.size (.int .i64 k) (.int .i64 x.k) (.int .i64 x.n) (.string ⟨x.s.toArray⟩) (.string ⟨nm.toArray⟩) (.slice ao na ca)) (exV k x nm (.slice ao na ca)) y:=((xd.put6 hwc _ _ _ _ _ _).weak gc.size:ExAt _ _ _ _)
  clear kd_ sd gd od hy xd hwc gc
  go_wp2_with fail
  change bodyPost Tryz.prog Tryz.f150 _ _ _ (put6 wd w.heap.size (.int .i64 k) (.int .i64 x.k) (.int .i64 x.n) (.string ⟨x.s.toArray⟩) (.string ⟨nm.toArray⟩) (.slice ao na ca))
  generalize put6 wd w.heap.size (.int .i64 k) (.int .i64 x.k) (.int .i64 x.n) (.string ⟨x.s.toArray⟩) (.string ⟨nm.toArray⟩) (.slice ao na ca)=wz at *
  obtain ⟨⟨e0,e1,e2,e3,e4,e5⟩,-⟩:=six kz
  refine bodyPost_ret (v:=exV k x nm (.slice ao na ca)) ?_ rfl (.mkOk gz HL.out hx sz)
  simp [results,Tryz.results150,go_sem,exV,e0,e1,e2,e3,e4,e5]
theorem ynY {base pb:Nat} {v:Value} {T:List Tk} {en:Int} (f:Nat):∀ (_:f≤60) (w:World) (i:Nat) (_:St w base pb v T en i),
  Calls Tryz.prog 150 #[.pointer (some ⟨pb,0,none⟩),.int .i64 ((60 - f:Nat):Int)] w fun e w'=>Out w base pb v T en (yiS w.heap.size) (ybd T f i) e w':=by
 induction f with
 | zero=>intro hf w i h;exact yls h
 | succ f ih =>
  intro hf w i h
  rw [show 60 - (f+1)=59 - f by omega]
  by_cases h1:tx T i=w_not
  ·exact yn0 h f (by omega) h1 fun W j hW=>ih (by omega) W j hW
  by_cases h2:tx T i=[40]
  ·exact ynZ h f (by omega) h2 fun W j hW=>yh2 hW _ f fun W j hW=>ih (by omega) W j hW
  ·exact ylr h f (by omega) h1 h2
def RowAt (B:Nat) (w:World) (u:Value) (n:Nat) (xs:List Value):Prop :=
 (n=0∧∃ ao cap,u=.slice ao 0 cap)∨∃ b off cap,u=.slice (some ⟨b,off,none⟩) n cap∧B≤b∧b < w.heap.size∧∀ j x,xs[j]?=some x→w.cell? ⟨b,off+j,none⟩=some x
theorem RowAt.keep {B:Nat} {w w':World} {u:Value} {n:Nat} {xs:List Value} (h:RowAt B w u n xs) (hs:w.heap.size≤w'.heap.size) (hk:∀ b,B≤b→b < w.heap.size→w'.heap[b]?=w.heap[b]?):RowAt B w' u n xs:=by
 rcases h with h|⟨b,off,cap,hu,hB,hl,hc⟩
 ·exact .inl h
 ·exact .inr ⟨b,off,cap,hu,hB,Nat.lt_of_lt_of_le hl hs,fun j x hj=>(World.cell?_of_block (w:=w) (hk b hB hl)).trans (hc j x hj)⟩
theorem RowAt.grown {B pb:Nat} {w w':World} {u:Value} {n:Nat} {xs:List Value} (h:RowAt B w u n xs) (hp:pb < B) (hg:w.grownBy w' (some pb)):RowAt B w' u n xs :=
 h.keep hg.size fun b hB hs=>hg.block b hs (by simp only [ne_eq,Option.some.injEq];omega)
theorem RowAt.under {B:Nat} {w w':World} {u:Value} {n:Nat} {xs:List Value} (h:RowAt B w u n xs) (hb:Below w.heap.size w w'):RowAt B w' u n xs :=
 h.keep hb.size fun b _ hs=>hb.block b hs
theorem RowAt.weak {B B':Nat} {w:World} {u:Value} {n:Nat} {xs:List Value} (h:RowAt B w u n xs) (hB:B'≤B):RowAt B' w u n xs:=by
 rcases h with h|⟨b,off,cap,hu,hb,hl,hc⟩
 ·exact .inl h
 ·exact .inr ⟨b,off,cap,hu,Nat.le_trans hB hb,hl,hc⟩
theorem RowAt.form {B:Nat} {w:World} {u:Value} {n:Nat} {xs:List Value} (h:RowAt B w u n xs):∃ ao cap,u=.slice ao n cap:=by
 rcases h with ⟨rfl,ao,cap,rfl⟩|⟨b,off,cap,rfl,-⟩
 ·exact ⟨_,_,rfl⟩
 ·exact ⟨_,_,rfl⟩
theorem RowAt.nil (B:Nat) (w:World) (xs:List Value):RowAt B w (.slice none 0 0) 0 xs:=.inl ⟨rfl,_,_,rfl⟩
theorem ym0 {B:Nat} {w:World} {e:TypeId} {size:Nat} {u:Value} {n:Nat} {xs:List Value} (h:w.ownsRow B e size u n xs):RowAt B w u n xs:=by
 rcases h.2 with ⟨hv,h0⟩|⟨g,cap,cur,hv,hb,hg,hrest⟩
 ·exact .inl ⟨h0,none,0,hv⟩
 ·refine .inr ⟨g,0,cap,hv,hb,(ltS hg),fun j x hj=>?_⟩
  rw [hv] at h
  rw [Nat.zero_add]
  exact ydR h j x hj
def clC (c:Cl):List Value:=[.string ⟨c.name.toArray⟩,.int .i64 c.ty]
def vlC (x:Vl):List Value:=[.int .i64 x.k,.int .i64 x.n,.string ⟨x.s.toArray⟩]
def stC (s:List UInt8):List Value:=[.string ⟨s.toArray⟩]
def atP (w:World) (pb:Nat):Nat:=match w.cell? ⟨pb,1,none⟩ with|some x=>(intOf x).toNat|none=>0
theorem St.at {w:World} {base pb:Nat} {v:Value} {T:List Tk} {en:Int} {i:Nat} (h:St w base pb v T en i):atP w pb=i:=by
 obtain ⟨⟨-,c1,-⟩,-⟩:=ycl h.blk
 simp [atP,c1,intOf]
theorem ye6 (w:World) (B:Nat) (e:TypeId) (size:Nat) (cs:Array Value) (hs:cs.size=size) (hB:B≤w.heap.size):(w.alloc (.cells cs e)).ownsRow B e size (.slice (some ⟨w.heap.size,0,none⟩) 1 1) 1 cs.toList:=by
 refine ⟨by simp [hs],.inr ⟨w.heap.size,1,cs,rfl,hB,heap_alloc_new _ _,Nat.le_refl _,by decide,by omega, ?_⟩⟩
 rw [List.take_of_length_le]
 simp [hs]
theorem yeI (T:List Tk) (i j:Nat) (a:List UInt8) (h:yau T i=.ok a j):i≤j:=by
 rw [yau] at h;split at h
 ·cases h;omega
 ·cases h
theorem yio (T:List Tk) (f:List UInt8→Nat) (i j a:Nat) (h:ycj T f i=.ok a j):i≤j:=by
 rw [ycj] at h;split at h
 ·cases h
 ·cases h;omega
theorem yeW (T:List Tk) (l i j a:Nat) (h:yaX T l i=.ok a j):i≤j:=by
 rw [yaX] at h;split at h
 ·cases h;omega
 ·cases h
theorem then_ok {α β:Type} {r:Rs α} {f:α→Nat→Rs β} {b:β} {j:Nat} (h:r.then f=.ok b j):∃ a k,r=.ok a k∧f a k=.ok b j:=by
 cases r with
 | ok a k=>exact ⟨a,k,rfl,h⟩
 | bad k=>cases h
theorem yeS (T:List Tk) (i j:Nat) (a:Cl) (h:yaG T i=.ok a j):i≤j:=by
 obtain ⟨s,k,h1,h2⟩:=then_ok h
 obtain ⟨s2,k2,h3,h4⟩:=then_ok h2
 cases h4
 exact Nat.le_trans (yeI T i k s h1) (yio T _ k _ _ h3)
theorem ykq (T:List Tk) (i j:Nat) (s:List UInt8):∀ ws,yaS T ws i=.ok s j→i≤j:=by
 intro ws
 induction ws with
 | nil=>intro h;cases h
 | cons x r ih =>
  intro h
  rw [yaS] at h
  split at h
  ·cases h;omega
  ·exact ih h
theorem yfI (T:List Tk) (i j:Nat) (a:Vl) (h:yaJ T i=.ok a j):i≤j:=by
 rw [yaJ] at h
 split at h
 ·obtain ⟨n,k,h1,h2⟩:=then_ok h
  cases h2
  exact yeW T 0 i _ _ h1
 ·split at h
  ·cases h;omega
  ·obtain ⟨s,k,h1,h2⟩:=then_ok h
   have:=ykq T i k s _ h1
   split at h2
   ·obtain ⟨n,k2,h3,h4⟩:=then_ok h2
    cases h4
    exact Nat.le_trans this (yeW T 1 _ _ _ h3)
   ·split at h2
    ·cases h2;exact this
    ·split at h2
     ·cases h2;exact this
     ·cases h2;exact this
theorem hmf (fn:Fn) (first cap:Array Value) (w:World):(Instr.makeFunc fn first cap).run Tryz.prog w=.ok (.func fn first cap) w:=rfl
theorem Tryz.info_col:(Tryz.prog.info? 56).map (fun i=>(i.zero,i.size,i.bytes))=some (some (.agg #[.string ⟨#[]⟩,.int .i64 0]),2,24):=by kernel_rfl
theorem yo6 {w:World} {base pb:Nat} {v:Value} {T:List Tk} {en:Int} {i:Nat} (h:St w base pb v T en i) :
  Calls Tryz.prog 169 #[.pointer (some ⟨pb,0,none⟩),.func (.func 144) #[.pointer (some ⟨pb,0,none⟩)] #[]] w fun e w' =>
   Out w base pb v T en (fun w' u (l:List (Cl))=>w'.ownsRow w.heap.size 56 2 u l.length (l.flatMap clC)) (ybX T (yaG T) i) e w':=by
 obtain ⟨i0,hi,hz0,hz1,hz2⟩:=info_parts Tryz.info_col
 have hfw:=h.few
 have hpl:=h.heapLt
 go_enter Tryz.func169,Tryz.ntmps169
 go_wp2_with fail
 refine (ydO h).mono ?_
 intro e wa oa
 have ga:=oa.grown
 cases hy:yaG T i with
 | bad j =>
  obtain rfl:=oa.bad j hy
  exact ⟨rfl,.mkBad ga (by rw [ybX,hy];rfl)⟩
 | ok x j =>
  obtain ⟨u,rfl,hu,sa⟩:=oa.ok x j hy
  cases hu
  have HL:Hid (ybX T (yaG T) i=ybL T (yaG T) (T.length+1) [x] j):=by show _=_;rw [ybX,hy];rfl
  have hij:=yeS T i j x hy
  have sa1:=sa.alloc (.cells #[.string ⟨x.name.toArray⟩,.int .i64 x.ty] 56)
  have ga1:=yax ga (.cells #[.string ⟨x.name.toArray⟩,.int .i64 x.ty] 56)
  have ow:=ye6 wa w.heap.size 56 2 #[.string ⟨x.name.toArray⟩,.int .i64 x.ty] rfl ga.size
  clear hy oa ga sa
  rw [clV]
  go_wp2_with fail
  go_loopw [5] (fun l wr=>∃ (acc:List (Cl)) (j f:Nat),wr.ownsRow w.heap.size 56 2 l acc.length (acc.flatMap clC)∧w.grownBy wr (some pb)∧St wr base pb v T en j∧T.length < f+j∧acc.length≤j+1∧Hid (ybX T (yaG T) i=ybL T (yaG T) f acc j)) (fun _ wr=>T.length+1 - atP wr pb)
  case atStart=>exact ⟨[x],j,T.length+1,ow,ga1,sa1,by omega,by simp,HL⟩
  case round =>
   obtain ⟨acc,j,f,hown,hg,hst,hf,hacc,HE⟩:=hrel
   have hat:=hst.at
   have hjl:=hst.le
   have hmay:=yc0 hst [44] (by decide)
   clear HL hij ow ga1 sa1
   by_cases hc:tx T j=[44]
   ·have hjlt:j < T.length:=ygS (by rw [hc];decide)
    simp only [hc,if_true,decide_true] at hmay
    obtain ⟨f',rfl⟩:∃ f',f=f'+1:=⟨f - 1,by omega⟩
    have HE2:Hid (ybX T (yaG T) i=(yaG T (j+1)).then fun x j=>ybL T (yaG T) f' (acc++[x]) j):=by show _=_;rw [HE.out,ybL,if_pos hc]
    clear HE hc
    go_wp2_with (go_at_call 141;refine hmay.mono ?_;rintro e wb ⟨rfl,gb,sb⟩)
    refine (ydO sb).mono ?_
    intro e wc oc
    have gc:=yaa gb oc.grown
    cases hz:yaG T (j+1) with
    | bad j2 =>
     obtain rfl:=oc.bad j2 hz
     exact ⟨rfl,.mkBad (yaa hg gc) (by rw [HE2.out,hz];rfl)⟩
    | ok x j2 =>
     obtain ⟨u,rfl,hu,sc⟩:=oc.ok x j2 hz
     cases hu
     have hjj:=yeS T _ _ _ hz
     have HE3:Hid (ybX T (yaG T) i=ybL T (yaG T) f' (acc++[x]) j2):=by show _=_;rw [HE2.out,hz];rfl
     have hown2:=(hown.kept gc (by
      rcases hown.2 with ⟨hv,-⟩|⟨g,cap,cur,hv,hb,-⟩
      ·rw [hv];exact .inl rfl
      ·rw [hv];right;simp only [Value.ownBlock,ne_eq,Option.some.injEq];omega)).alloc (.cells #[.string ⟨x.name.toArray⟩,.int .i64 x.ty] 56)
     have sc1:=sc.alloc (.cells #[.string ⟨x.name.toArray⟩,.int .i64 x.ty] 56)
     have hlt5:=hown2.lt
     have hgs:=hg.size
     have hgs2:=gc.size
     have hjl2:=sc.le
     clear HE2 hz oc hown sb hmay
     rw [clV]
     go_wp2_with (at_builtin;refine wpList_append_own _ rfl _ _ 22 rfl w.heap.size 56 i0 (.agg #[.string ⟨#[]⟩,.int .i64 0]) 2 24 Tryz.underlying22 hi hz0 hz1 hz2 rfl (by decide) _ _ _ rfl hown2 ⟨wc.heap.size,0,none⟩ 1 1 [.string ⟨x.name.toArray⟩,.int .i64 x.ty] rfl rfl ?c1 ?c2 ?c3 ?c4 ?c5 ?_)
     case c1 =>
      intro j u hj
      match j,hj with
       | 0,hj=>simp at hj;subst hj;simp [Addr.add]
       | 1,hj=>simp at hj;subst hj;simp [Addr.add]
     case c2=>intro u hu;simp at hu;rcases hu with rfl|rfl <;> rfl
     case c3=>unfold maxLen;omega
     case c4=>omega
     case c5=>simp;omega
     intro v' w3 hown' hgrow _
     have hg3:w.grownBy w3 (some pb):=by
      have q:=yax (yaa hg gc) (.cells #[.string ⟨x.name.toArray⟩,.int .i64 x.ty] 56)
      refine ⟨hgrow.os.trans q.os,hgrow.tape.trans q.tape,hgrow.output.trans q.output,Nat.le_trans q.size hgrow.size,fun k hk hr=>(hgrow.block k (Nat.lt_of_lt_of_le hk q.size) ?_).trans (q.block k hk hr)⟩
      intro e
      have:=(hlt5 _ e.symm).1
      omega
     have sc3:St w3 base pb v T en j2:=by
      have hpb:some pb≠_:=fun e=>by have:=(hlt5 _ e.symm).1;omega
      refine ⟨(hgrow.block pb sc1.heapLt hpb).trans sc1.blk,sc1.own.kept hgrow ?_,sc1.ne,sc1.le,sc1.few,sc1.six,sc1.gl.keep hgrow.size fun k hk=>hgrow.block k (Nat.lt_of_lt_of_le hk sc1.gl.sz) (fun e=>by have:=(hlt5 _ e.symm).1;have:=h.gl.sz;omega),sc1.toks⟩
      rcases h.own.2 with ⟨hv,-⟩|⟨g,cap,cur,hv,-,hgg,-⟩
      ·rw [hv];exact .inl rfl
      ·right
       intro e
       rw [hv] at e
       have:=(hlt5 g e.symm).1
       have:=(ltS hgg)
       omega
     have R3:w3.ownsRow w.heap.size 56 2 v' (acc++[x]).length ((acc++[x]).flatMap clC):=by
      rw [List.length_append,List.flatMap_append]
      have e1:[x].flatMap clC=clC x:=by simp
      rw [e1];exact hown'
     have hat3:=sc3.at
     clear hown' hgrow hown2 hlt5 sc1 sc gc hg
     go_wp2
     go_roundw
     case rel=>exact ⟨acc++[x],j2,f',R3,hg3,sc3,by omega,by simp;omega,HE3⟩
     case measure=>rw [hat3,hat];omega
   ·simp only [hc,if_false,decide_false] at hmay
    have HE2:Hid (ybX T (yaG T) i=.ok acc j):=by
     show _=_
     rw [HE.out]
     cases f with
     | zero=>rfl
     | succ f=>rw [ybL,if_neg hc]
    clear HE hc
    have hgb:=fun (wb:World) (gb:wr.grownBy wb (some pb))=>hown.kept gb (by
     rcases hown.2 with ⟨hv,-⟩|⟨g,cap,cur,hv,hb,-⟩
     ·rw [hv];exact .inl rfl
     ·rw [hv];right;simp only [Value.ownBlock,ne_eq,Option.some.injEq];omega)
    obtain ⟨ao,cap,hv⟩:=ybV hown
    subst hv
    clear hown
    go_wp2_with (go_at_call 141;refine hmay.mono ?_;rintro e wb ⟨rfl,gb,sb⟩)
    go_ret
    exact .mkOk (yaa hg gb) HE2.out (hgb _ gb) sb
theorem Tryz.info_val:(Tryz.prog.info? 24).map (fun i=>(i.zero,i.size,i.bytes))=some (some (.agg #[.int .i64 0,.int .i64 0,.string ⟨#[]⟩]),3,32):=by kernel_rfl
theorem yo8 {w:World} {base pb:Nat} {v:Value} {T:List Tk} {en:Int} {i:Nat} (h:St w base pb v T en i) :
  Calls Tryz.prog 172 #[.pointer (some ⟨pb,0,none⟩),.func (.func 146) #[.pointer (some ⟨pb,0,none⟩)] #[]] w fun e w' =>
   Out w base pb v T en (fun w' u (l:List (Vl))=>w'.ownsRow w.heap.size 24 3 u l.length (l.flatMap vlC)) (ybX T (yaJ T) i) e w':=by
 obtain ⟨i0,hi,hz0,hz1,hz2⟩:=info_parts Tryz.info_val
 have hfw:=h.few
 have hpl:=h.heapLt
 go_enter Tryz.func172,Tryz.ntmps172
 go_wp2_with fail
 refine (ydK h).mono ?_
 intro e wa oa
 have ga:=oa.grown
 cases hy:yaJ T i with
 | bad j =>
  obtain rfl:=oa.bad j hy
  exact ⟨rfl,.mkBad ga (by rw [ybX,hy];rfl)⟩
 | ok x j =>
  obtain ⟨u,rfl,hu,sa⟩:=oa.ok x j hy
  cases hu
  have HL:Hid (ybX T (yaJ T) i=ybL T (yaJ T) (T.length+1) [x] j):=by show _=_;rw [ybX,hy];rfl
  have hij:=yfI T i j x hy
  have sa1:=sa.alloc (.cells #[.int .i64 x.k,.int .i64 x.n,.string ⟨x.s.toArray⟩] 24)
  have ga1:=yax ga (.cells #[.int .i64 x.k,.int .i64 x.n,.string ⟨x.s.toArray⟩] 24)
  have ow:=ye6 wa w.heap.size 24 3 #[.int .i64 x.k,.int .i64 x.n,.string ⟨x.s.toArray⟩] rfl ga.size
  clear hy oa ga sa
  rw [vlV]
  go_wp2_with fail
  go_loopw [5] (fun l wr=>∃ (acc:List (Vl)) (j f:Nat),wr.ownsRow w.heap.size 24 3 l acc.length (acc.flatMap vlC)∧w.grownBy wr (some pb)∧St wr base pb v T en j∧T.length < f+j∧acc.length≤j+1∧Hid (ybX T (yaJ T) i=ybL T (yaJ T) f acc j)) (fun _ wr=>T.length+1 - atP wr pb)
  case atStart=>exact ⟨[x],j,T.length+1,ow,ga1,sa1,by omega,by simp,HL⟩
  case round =>
   obtain ⟨acc,j,f,hown,hg,hst,hf,hacc,HE⟩:=hrel
   have hat:=hst.at
   have hjl:=hst.le
   have hmay:=yc0 hst [44] (by decide)
   clear HL hij ow ga1 sa1
   by_cases hc:tx T j=[44]
   ·have hjlt:j < T.length:=ygS (by rw [hc];decide)
    simp only [hc,if_true,decide_true] at hmay
    obtain ⟨f',rfl⟩:∃ f',f=f'+1:=⟨f - 1,by omega⟩
    have HE2:Hid (ybX T (yaJ T) i=(yaJ T (j+1)).then fun x j=>ybL T (yaJ T) f' (acc++[x]) j):=by show _=_;rw [HE.out,ybL,if_pos hc]
    clear HE hc
    go_wp2_with (go_at_call 141;refine hmay.mono ?_;rintro e wb ⟨rfl,gb,sb⟩)
    refine (ydK sb).mono ?_
    intro e wc oc
    have gc:=yaa gb oc.grown
    cases hz:yaJ T (j+1) with
    | bad j2 =>
     obtain rfl:=oc.bad j2 hz
     exact ⟨rfl,.mkBad (yaa hg gc) (by rw [HE2.out,hz];rfl)⟩
    | ok x j2 =>
     obtain ⟨u,rfl,hu,sc⟩:=oc.ok x j2 hz
     cases hu
     have hjj:=yfI T _ _ _ hz
     have HE3:Hid (ybX T (yaJ T) i=ybL T (yaJ T) f' (acc++[x]) j2):=by show _=_;rw [HE2.out,hz];rfl
     have hown2:=(hown.kept gc (by
      rcases hown.2 with ⟨hv,-⟩|⟨g,cap,cur,hv,hb,-⟩
      ·rw [hv];exact .inl rfl
      ·rw [hv];right;simp only [Value.ownBlock,ne_eq,Option.some.injEq];omega)).alloc (.cells #[.int .i64 x.k,.int .i64 x.n,.string ⟨x.s.toArray⟩] 24)
     have sc1:=sc.alloc (.cells #[.int .i64 x.k,.int .i64 x.n,.string ⟨x.s.toArray⟩] 24)
     have hlt5:=hown2.lt
     have hgs:=hg.size
     have hgs2:=gc.size
     have hjl2:=sc.le
     clear HE2 hz oc hown sb hmay
     rw [vlV]
     go_wp2_with (at_builtin;refine wpList_append_own _ rfl _ _ 25 rfl w.heap.size 24 i0 (.agg #[.int .i64 0,.int .i64 0,.string ⟨#[]⟩]) 3 32 Tryz.underlying25 hi hz0 hz1 hz2 rfl (by decide) _ _ _ rfl hown2 ⟨wc.heap.size,0,none⟩ 1 1 [.int .i64 x.k,.int .i64 x.n,.string ⟨x.s.toArray⟩] rfl rfl ?c1 ?c2 ?c3 ?c4 ?c5 ?_)
     case c1 =>
      intro j u hj
      match j,hj with
       | 0,hj=>simp at hj;subst hj;simp [Addr.add]
       | 1,hj=>simp at hj;subst hj;simp [Addr.add]
       | 2,hj=>simp at hj;subst hj;simp [Addr.add]
     case c2=>intro u hu;simp at hu;rcases hu with rfl|rfl|rfl <;> rfl
     case c3=>unfold maxLen;omega
     case c4=>omega
     case c5=>simp;omega
     intro v' w3 hown' hgrow _
     have hg3:w.grownBy w3 (some pb):=by
      have q:=yax (yaa hg gc) (.cells #[.int .i64 x.k,.int .i64 x.n,.string ⟨x.s.toArray⟩] 24)
      refine ⟨hgrow.os.trans q.os,hgrow.tape.trans q.tape,hgrow.output.trans q.output,Nat.le_trans q.size hgrow.size,fun k hk hr=>(hgrow.block k (Nat.lt_of_lt_of_le hk q.size) ?_).trans (q.block k hk hr)⟩
      intro e
      have:=(hlt5 _ e.symm).1
      omega
     have sc3:St w3 base pb v T en j2:=by
      have hpb:some pb≠_:=fun e=>by have:=(hlt5 _ e.symm).1;omega
      refine ⟨(hgrow.block pb sc1.heapLt hpb).trans sc1.blk,sc1.own.kept hgrow ?_,sc1.ne,sc1.le,sc1.few,sc1.six,sc1.gl.keep hgrow.size fun k hk=>hgrow.block k (Nat.lt_of_lt_of_le hk sc1.gl.sz) (fun e=>by have:=(hlt5 _ e.symm).1;have:=h.gl.sz;omega),sc1.toks⟩
      rcases h.own.2 with ⟨hv,-⟩|⟨g,cap,cur,hv,-,hgg,-⟩
      ·rw [hv];exact .inl rfl
      ·right
       intro e
       rw [hv] at e
       have:=(hlt5 g e.symm).1
       have:=(ltS hgg)
       omega
     have R3:w3.ownsRow w.heap.size 24 3 v' (acc++[x]).length ((acc++[x]).flatMap vlC):=by
      rw [List.length_append,List.flatMap_append]
      have e1:[x].flatMap vlC=vlC x:=by simp
      rw [e1];exact hown'
     have hat3:=sc3.at
     clear hown' hgrow hown2 hlt5 sc1 sc gc hg
     go_wp2
     go_roundw
     case rel=>exact ⟨acc++[x],j2,f',R3,hg3,sc3,by omega,by simp;omega,HE3⟩
     case measure=>rw [hat3,hat];omega
   ·simp only [hc,if_false,decide_false] at hmay
    have HE2:Hid (ybX T (yaJ T) i=.ok acc j):=by
     show _=_
     rw [HE.out]
     cases f with
     | zero=>rfl
     | succ f=>rw [ybL,if_neg hc]
    clear HE hc
    have hgb:=fun (wb:World) (gb:wr.grownBy wb (some pb))=>hown.kept gb (by
     rcases hown.2 with ⟨hv,-⟩|⟨g,cap,cur,hv,hb,-⟩
     ·rw [hv];exact .inl rfl
     ·rw [hv];right;simp only [Value.ownBlock,ne_eq,Option.some.injEq];omega)
    obtain ⟨ao,cap,hv⟩:=ybV hown
    subst hv
    clear hown
    go_wp2_with (go_at_call 141;refine hmay.mono ?_;rintro e wb ⟨rfl,gb,sb⟩)
    go_ret
    exact .mkOk (yaa hg gb) HE2.out (hgb _ gb) sb
theorem Tryz.info_str:(Tryz.prog.info? 9).map (fun i=>(i.zero,i.size,i.bytes))=some (some (.string ⟨#[]⟩),1,16):=by kernel_rfl
theorem yo7 {w:World} {base pb:Nat} {v:Value} {T:List Tk} {en:Int} {i:Nat} (h:St w base pb v T en i) :
  Calls Tryz.prog 151 #[.pointer (some ⟨pb,0,none⟩),.func (.func 142) #[.pointer (some ⟨pb,0,none⟩)] #[]] w fun e w' =>
   Out w base pb v T en (fun w' u (l:List (List UInt8))=>w'.ownsRow w.heap.size 9 1 u l.length (l.flatMap stC)) (ybX T (yau T) i) e w':=by
 obtain ⟨i0,hi,hz0,hz1,hz2⟩:=info_parts Tryz.info_str
 have hfw:=h.few
 have hpl:=h.heapLt
 go_enter Tryz.func151,Tryz.ntmps151
 go_wp2_with fail
 refine (ya9 h).mono ?_
 intro e wa oa
 have ga:=oa.grown
 cases hy:yau T i with
 | bad j =>
  obtain rfl:=oa.bad j hy
  exact ⟨rfl,.mkBad ga (by rw [ybX,hy];rfl)⟩
 | ok x j =>
  obtain ⟨u,rfl,hu,sa⟩:=oa.ok x j hy
  cases hu
  have HL:Hid (ybX T (yau T) i=ybL T (yau T) (T.length+1) [x] j):=by show _=_;rw [ybX,hy];rfl
  have hij:=yeI T i j x hy
  have sa1:=sa.alloc (.cells #[.string ⟨x.toArray⟩] 9)
  have ga1:=yax ga (.cells #[.string ⟨x.toArray⟩] 9)
  have ow:=ye6 wa w.heap.size 9 1 #[.string ⟨x.toArray⟩] rfl ga.size
  clear hy oa ga sa
  go_wp2_with fail
  go_loopw [5] (fun l wr=>∃ (acc:List (List UInt8)) (j f:Nat),wr.ownsRow w.heap.size 9 1 l acc.length (acc.flatMap stC)∧w.grownBy wr (some pb)∧St wr base pb v T en j∧T.length < f+j∧acc.length≤j+1∧Hid (ybX T (yau T) i=ybL T (yau T) f acc j)) (fun _ wr=>T.length+1 - atP wr pb)
  case atStart=>exact ⟨[x],j,T.length+1,ow,ga1,sa1,by omega,by simp,HL⟩
  case round =>
   obtain ⟨acc,j,f,hown,hg,hst,hf,hacc,HE⟩:=hrel
   have hat:=hst.at
   have hjl:=hst.le
   have hmay:=yc0 hst [44] (by decide)
   clear HL hij ow ga1 sa1
   by_cases hc:tx T j=[44]
   ·have hjlt:j < T.length:=ygS (by rw [hc];decide)
    simp only [hc,if_true,decide_true] at hmay
    obtain ⟨f',rfl⟩:∃ f',f=f'+1:=⟨f - 1,by omega⟩
    have HE2:Hid (ybX T (yau T) i=(yau T (j+1)).then fun x j=>ybL T (yau T) f' (acc++[x]) j):=by show _=_;rw [HE.out,ybL,if_pos hc]
    clear HE hc
    go_wp2_with (go_at_call 141;refine hmay.mono ?_;rintro e wb ⟨rfl,gb,sb⟩)
    refine (ya9 sb).mono ?_
    intro e wc oc
    have gc:=yaa gb oc.grown
    cases hz:yau T (j+1) with
    | bad j2 =>
     obtain rfl:=oc.bad j2 hz
     exact ⟨rfl,.mkBad (yaa hg gc) (by rw [HE2.out,hz];rfl)⟩
    | ok x j2 =>
     obtain ⟨u,rfl,hu,sc⟩:=oc.ok x j2 hz
     cases hu
     have hjj:=yeI T _ _ _ hz
     have HE3:Hid (ybX T (yau T) i=ybL T (yau T) f' (acc++[x]) j2):=by show _=_;rw [HE2.out,hz];rfl
     have hown2:=(hown.kept gc (by
      rcases hown.2 with ⟨hv,-⟩|⟨g,cap,cur,hv,hb,-⟩
      ·rw [hv];exact .inl rfl
      ·rw [hv];right;simp only [Value.ownBlock,ne_eq,Option.some.injEq];omega)).alloc (.cells #[.string ⟨x.toArray⟩] 9)
     have sc1:=sc.alloc (.cells #[.string ⟨x.toArray⟩] 9)
     have hlt5:=hown2.lt
     have hgs:=hg.size
     have hgs2:=gc.size
     have hjl2:=sc.le
     clear HE2 hz oc hown sb hmay
     go_wp2_with (at_builtin;refine wpList_append_own _ rfl _ _ 26 rfl w.heap.size 9 i0 (.string ⟨#[]⟩) 1 16 Tryz.underlying26 hi hz0 hz1 hz2 rfl (by decide) _ _ _ rfl hown2 ⟨wc.heap.size,0,none⟩ 1 1 [.string ⟨x.toArray⟩] rfl rfl ?c1 ?c2 ?c3 ?c4 ?c5 ?_)
     case c1 =>
      intro j u hj
      match j,hj with
       | 0,hj=>simp at hj;subst hj;simp [Addr.add]
     case c2=>intro u hu;simp at hu;rcases hu with rfl <;> rfl
     case c3=>unfold maxLen;omega
     case c4=>omega
     case c5=>simp;omega
     intro v' w3 hown' hgrow _
     have hg3:w.grownBy w3 (some pb):=by
      have q:=yax (yaa hg gc) (.cells #[.string ⟨x.toArray⟩] 9)
      refine ⟨hgrow.os.trans q.os,hgrow.tape.trans q.tape,hgrow.output.trans q.output,Nat.le_trans q.size hgrow.size,fun k hk hr=>(hgrow.block k (Nat.lt_of_lt_of_le hk q.size) ?_).trans (q.block k hk hr)⟩
      intro e
      have:=(hlt5 _ e.symm).1
      omega
     have sc3:St w3 base pb v T en j2:=by
      have hpb:some pb≠_:=fun e=>by have:=(hlt5 _ e.symm).1;omega
      refine ⟨(hgrow.block pb sc1.heapLt hpb).trans sc1.blk,sc1.own.kept hgrow ?_,sc1.ne,sc1.le,sc1.few,sc1.six,sc1.gl.keep hgrow.size fun k hk=>hgrow.block k (Nat.lt_of_lt_of_le hk sc1.gl.sz) (fun e=>by have:=(hlt5 _ e.symm).1;have:=h.gl.sz;omega),sc1.toks⟩
      rcases h.own.2 with ⟨hv,-⟩|⟨g,cap,cur,hv,-,hgg,-⟩
      ·rw [hv];exact .inl rfl
      ·right
       intro e
       rw [hv] at e
       have:=(hlt5 g e.symm).1
       have:=(ltS hgg)
       omega
     have R3:w3.ownsRow w.heap.size 9 1 v' (acc++[x]).length ((acc++[x]).flatMap stC):=by
      rw [List.length_append,List.flatMap_append]
      have e1:[x].flatMap stC=stC x:=by simp
      rw [e1];exact hown'
     have hat3:=sc3.at
     clear hown' hgrow hown2 hlt5 sc1 sc gc hg
     go_wp2
     go_roundw
     case rel=>exact ⟨acc++[x],j2,f',R3,hg3,sc3,by omega,by simp;omega,HE3⟩
     case measure=>rw [hat3,hat];omega
   ·simp only [hc,if_false,decide_false] at hmay
    have HE2:Hid (ybX T (yau T) i=.ok acc j):=by
     show _=_
     rw [HE.out]
     cases f with
     | zero=>rfl
     | succ f=>rw [ybL,if_neg hc]
    clear HE hc
    have hgb:=fun (wb:World) (gb:wr.grownBy wb (some pb))=>hown.kept gb (by
     rcases hown.2 with ⟨hv,-⟩|⟨g,cap,cur,hv,hb,-⟩
     ·rw [hv];exact .inl rfl
     ·rw [hv];right;simp only [Value.ownBlock,ne_eq,Option.some.injEq];omega)
    obtain ⟨ao,cap,hv⟩:=ybV hown
    subst hv
    clear hown
    go_wp2_with (go_at_call 141;refine hmay.mono ?_;rintro e wb ⟨rfl,gb,sb⟩)
    go_ret
    exact .mkOk (yaa hg gb) HE2.out (hgb _ gb) sb
def yuK {α:Type} (cf:α→List Value) (B:Nat) (w':World) (u:Value) (l:List α):Prop:=RowAt B w' u l.length (l.flatMap cf)
theorem yoL {w:World} {base pb:Nat} {v:Value} {T:List Tk} {en:Int} {i:Nat} (h:St w base pb v T en i) :
  Calls Tryz.prog 143 #[.pointer (some ⟨pb,0,none⟩),.func (.func 144) #[.pointer (some ⟨pb,0,none⟩)] #[]] w fun e w' =>
   Out w base pb v T en (yuK clC w.heap.size) (ycy T (yaG T) i) e w':=by
 go_enter Tryz.func143,Tryz.ntmps143
 go_wp2_with fail
 refine (ybz h [[40]] 1 _ (by simp) _ (by rfl) (by rfl) (by decide) (by decide)).mono ?_
 intro e wa oa
 have ga:=oa.grown
 cases hy:ybl T [[40]] i with
 | bad j =>
  obtain rfl:=oa.bad j hy
  exact ⟨rfl,.mkBad ga (by rw [ycy,hy];rfl)⟩
 | ok x j =>
  obtain ⟨u,rfl,hu,sa⟩:=oa.ok x j hy
  have H1:Hid (ycy T (yaG T) i=(ybX T (yaG T) j).then fun l j=>(ybl T [[41]] j).then fun _ j=>.ok l j):=by show _=_;rw [ycy,hy];rfl
  clear hy oa
  go_wp2_with fail
  refine (yo6 sa).mono ?_
  intro e wb ob
  have gb:=yaa ga ob.grown
  cases hz:ybX T (yaG T) j with
  | bad j2 =>
   obtain rfl:=ob.bad j2 hz
   exact ⟨rfl,.mkBad gb (by rw [H1.out,hz];rfl)⟩
  | ok l j2 =>
   obtain ⟨u,rfl,hr,sb⟩:=ob.ok l j2 hz
   have hr:=ym0 hr
   obtain ⟨ao,cap,rfl⟩:=hr.form
   have H2:Hid (ycy T (yaG T) i=(ybl T [[41]] j2).then fun _ j=>.ok l j):=by show _=_;rw [H1.out,hz];rfl
   have hpa:=sa.heapLt
   clear hz ob sa H1
   go_wp2_with fail
   refine (ybz sb [[41]] 1 _ (by simp) _ (by rfl) (by rfl) (by decide) (by decide)).mono ?_
   intro e wc oc
   have gc:=yaa gb oc.grown
   have hr2:=(hr.grown hpa oc.grown).weak ga.size
   cases hw:ybl T [[41]] j2 with
   | bad j3 =>
    obtain rfl:=oc.bad j3 hw
    exact ⟨rfl,.mkBad gc (by rw [H2.out,hw];rfl)⟩
   | ok x3 j3 =>
    obtain ⟨u,rfl,hu,sc⟩:=oc.ok x3 j3 hw
    have H3:Hid (ycy T (yaG T) i=.ok l j3):=by show _=_;rw [H2.out,hw];rfl
    clear hw oc sb H2 hr
    go_wp2_with fail
    go_ret
    exact .mkOk gc H3.out hr2 sc
theorem yoM {w:World} {base pb:Nat} {v:Value} {T:List Tk} {en:Int} {i:Nat} (h:St w base pb v T en i) :
  Calls Tryz.prog 148 #[.pointer (some ⟨pb,0,none⟩),.func (.func 146) #[.pointer (some ⟨pb,0,none⟩)] #[]] w fun e w' =>
   Out w base pb v T en (yuK vlC w.heap.size) (ycy T (yaJ T) i) e w':=by
 go_enter Tryz.func148,Tryz.ntmps148
 go_wp2_with fail
 refine (ybz h [[40]] 1 _ (by simp) _ (by rfl) (by rfl) (by decide) (by decide)).mono ?_
 intro e wa oa
 have ga:=oa.grown
 cases hy:ybl T [[40]] i with
 | bad j =>
  obtain rfl:=oa.bad j hy
  exact ⟨rfl,.mkBad ga (by rw [ycy,hy];rfl)⟩
 | ok x j =>
  obtain ⟨u,rfl,hu,sa⟩:=oa.ok x j hy
  have H1:Hid (ycy T (yaJ T) i=(ybX T (yaJ T) j).then fun l j=>(ybl T [[41]] j).then fun _ j=>.ok l j):=by show _=_;rw [ycy,hy];rfl
  clear hy oa
  go_wp2_with fail
  refine (yo8 sa).mono ?_
  intro e wb ob
  have gb:=yaa ga ob.grown
  cases hz:ybX T (yaJ T) j with
  | bad j2 =>
   obtain rfl:=ob.bad j2 hz
   exact ⟨rfl,.mkBad gb (by rw [H1.out,hz];rfl)⟩
  | ok l j2 =>
   obtain ⟨u,rfl,hr,sb⟩:=ob.ok l j2 hz
   have hr:=ym0 hr
   obtain ⟨ao,cap,rfl⟩:=hr.form
   have H2:Hid (ycy T (yaJ T) i=(ybl T [[41]] j2).then fun _ j=>.ok l j):=by show _=_;rw [H1.out,hz];rfl
   have hpa:=sa.heapLt
   clear hz ob sa H1
   go_wp2_with fail
   refine (ybz sb [[41]] 1 _ (by simp) _ (by rfl) (by rfl) (by decide) (by decide)).mono ?_
   intro e wc oc
   have gc:=yaa gb oc.grown
   have hr2:=(hr.grown hpa oc.grown).weak ga.size
   cases hw:ybl T [[41]] j2 with
   | bad j3 =>
    obtain rfl:=oc.bad j3 hw
    exact ⟨rfl,.mkBad gc (by rw [H2.out,hw];rfl)⟩
   | ok x3 j3 =>
    obtain ⟨u,rfl,hu,sc⟩:=oc.ok x3 j3 hw
    have H3:Hid (ycy T (yaJ T) i=.ok l j3):=by show _=_;rw [H2.out,hw];rfl
    clear hw oc sb H2 hr
    go_wp2_with fail
    go_ret
    exact .mkOk gc H3.out hr2 sc
def putAll (W:World) (b:Nat):Nat→List Value→World
 | _,[]=>W
 | o,x::xs=>putAll (W.setCell ⟨b,o,none⟩ x) b (o+1) xs
theorem yaQ (b:Nat):∀ (xs:List Value) (W:World) (o:Nat),(putAll W b o xs).heap.size=W.heap.size:=by
 intro xs
 induction xs with
 | nil=>intro W o;rfl
 | cons x xs ih=>intro W o;rw [putAll,ih];simp [World.setCell]
theorem yag (b:Nat):∀ (xs:List Value) (W:World) (o k:Nat),k≠b→(putAll W b o xs).heap[k]?=W.heap[k]?:=by
 intro xs
 induction xs with
 | nil=>intro W o k _;rfl
 | cons x xs ih=>intro W o k hk;rw [putAll,ih _ _ _ hk];exact heap_setCell_other W ⟨b,o,none⟩ k x hk
theorem yaj (b:Nat):∀ (xs:List Value) (W:World) (o:Nat),(putAll W b o xs).os=W.os∧(putAll W b o xs).tape=W.tape∧(putAll W b o xs).output=W.output:=by
 intro xs
 induction xs with
 | nil=>intro W o;exact ⟨rfl,rfl,rfl⟩
 | cons x xs ih=>intro W o;rw [putAll];exact ih _ _
theorem ybN (b:Nat) (xs:List Value) (W:World) (o:Nat):W.grownBy (putAll W b o xs) (some b) :=
 ⟨(yaj b xs W o).1,(yaj b xs W o).2.1,(yaj b xs W o).2.2,Nat.le_of_eq (yaQ b xs W o).symm,fun k _ hk=>yag b xs W o k (by intro e;exact hk (by rw [e]))⟩
theorem ymR (b:Nat) (t:TypeId):∀ (xs:List Value) (W:World) (pre post:List Value),post.length=xs.length→W.heap[b]?=some (.cells (pre++post).toArray t) →
  (putAll W b pre.length xs).heap[b]?=some (.cells (pre++xs).toArray t):=by
 intro xs
 induction xs with
 | nil=>intro W pre post hl h;cases post with
  | nil=>exact h
  | cons _ _=>cases hl
 | cons x xs ih =>
  intro W pre post hl h
  cases post with
  | nil=>cases hl
  | cons y post =>
   have h1:=heap_setCell_same W b pre.length _ t x h
   have e:(pre++y::post).toArray.setIfInBounds pre.length x=((pre++[x])++post).toArray:=by simp
   rw [e] at h1
   have:=ih (W.setCell ⟨b,pre.length,none⟩ x) (pre++[x]) post (by simpa using hl) h1
   rw [putAll]
   simpa using this
theorem yiN {b:Nat} {t:TypeId} {W:World} {cs:List Value} (h:W.heap[b]?=some (.cells cs.toArray t)) (xs:List Value) (hl:cs.length=xs.length):(putAll W b 0 xs).heap[b]?=some (.cells xs.toArray t) :=
 ymR b t xs W [] cs hl h
theorem St.putAll {w:World} {base pb:Nat} {v:Value} {T:List Tk} {en:Int} {i:Nat} (h:St w base pb v T en i) {b:Nat} (hb:b≠pb∧v.ownBlock≠some b∧6≤b) (o:Nat) (xs:List Value):St (putAll w b o xs) base pb v T en i :=
 ⟨(yag b xs w o pb (Ne.symm hb.1)).trans h.blk,h.own.kept (ybN b xs w o) (.inr hb.2.1),h.ne,h.le,h.few,h.six,h.gl.grown hb.2.2 (ybN b xs w o),h.toks⟩
theorem yak {w w':World} {r:Option Nat} (h:w.grownBy w' r) {b:Nat} (hb:w.heap.size≤b) (o:Nat) (xs:List Value):w.grownBy (putAll w' b o xs) r :=
 ⟨(yaj b xs w' o).1.trans h.os,(yaj b xs w' o).2.1.trans h.tape,(yaj b xs w' o).2.2.trans h.output,Nat.le_trans h.size (Nat.le_of_eq (yaQ b xs w' o).symm),
  fun k hk hr=>(yag b xs w' o k (by omega)).trans (h.block k hk hr)⟩
theorem RowAt.putAll {B:Nat} {w:World} {u:Value} {n:Nat} {xs:List Value} (h:RowAt B w u n xs) {b:Nat} (hb:b < B) (o:Nat) (ys:List Value):RowAt B (putAll w b o ys) u n xs :=
 h.keep (Nat.le_of_eq (yaQ b ys w o).symm) fun c hc _=>yag b ys w o c (by omega)
theorem ExAt.putAll {B:Nat} {w:World} {u:Value} {x:Ex} (h:ExAt B w u x) {b:Nat} (hb:b < B) (o:Nat) (ys:List Value):ExAt B (putAll w b o ys) u x :=
 h.keep (Nat.le_of_eq (yaQ b ys w o).symm) fun c hc _=>yag b ys w o c (by omega)
def Ex.k:Ex→Int|.mk k _ _ _=>k
def Ex.v:Ex→Vl|.mk _ v _ _=>v
def Ex.nm:Ex→List UInt8|.mk _ _ n _=>n
def cmL (c:Cm) (cv vv fv ea wa:Value):List Value :=
 [.int .i64 c.kind,.string ⟨c.name.toArray⟩,.string ⟨c.other.toArray⟩,.string ⟨c.column.toArray⟩,cv,.int .i64 c.ty,.int .i64 c.val.k,.int .i64 c.val.n,.string ⟨c.val.s.toArray⟩,vv,fv,
  .int .i64 c.expr.k,.int .i64 c.expr.v.k,.int .i64 c.expr.v.n,.string ⟨c.expr.v.s.toArray⟩,.string ⟨c.expr.nm.toArray⟩,ea,.bool c.all,
  .int .i64 c.wh.k,.int .i64 c.wh.v.k,.int .i64 c.wh.v.n,.string ⟨c.wh.v.s.toArray⟩,.string ⟨c.wh.nm.toArray⟩,wa,.string ⟨c.order.toArray⟩,.int .i64 c.limit]
structure CmIn (B:Nat) (w:World) (c:Cm) (cv vv fv ea wa:Value):Prop where
 cols:RowAt B w cv c.cols.length (c.cols.flatMap clC)
 vals:RowAt B w vv c.vals.length (c.vals.flatMap vlC)
 fields:RowAt B w fv c.fields.length (c.fields.flatMap stC)
 expr:ExAt B w (exV c.expr.k c.expr.v c.expr.nm ea) c.expr
 wh:ExAt B w (exV c.wh.k c.wh.v c.wh.nm wa) c.wh
theorem CmIn.keep {B:Nat} {w w':World} {c:Cm} {cv vv fv ea wa:Value} (h:CmIn B w c cv vv fv ea wa) (hs:w.heap.size≤w'.heap.size) (hk:∀ b,B≤b→b < w.heap.size→w'.heap[b]?=w.heap[b]?):CmIn B w' c cv vv fv ea wa :=
 ⟨h.cols.keep hs hk,h.vals.keep hs hk,h.fields.keep hs hk,h.expr.keep hs hk,h.wh.keep hs hk⟩
theorem CmIn.grown {B pb:Nat} {w w':World} {c:Cm} {cv vv fv ea wa:Value} (h:CmIn B w c cv vv fv ea wa) (hp:pb < B) (hg:w.grownBy w' (some pb)):CmIn B w' c cv vv fv ea wa :=
 h.keep hg.size fun b hB hs=>hg.block b hs (by simp only [ne_eq,Option.some.injEq];omega)
theorem CmIn.put {B:Nat} {w:World} {c:Cm} {cv vv fv ea wa:Value} (h:CmIn B w c cv vv fv ea wa) {b:Nat} (hb:b < B) (o:Nat) (y:Value):CmIn B (w.setCell ⟨b,o,none⟩ y) c cv vv fv ea wa :=
 h.keep (by simp [World.setCell]) fun c hc _=>heap_setCell_other w _ c y (by simp only;omega)
theorem CmIn.alloc {B:Nat} {w:World} {c:Cm} {cv vv fv ea wa:Value} (h:CmIn B w c cv vv fv ea wa) (o:Obj):CmIn B (w.alloc o) c cv vv fv ea wa :=
 h.keep (by simp) fun b _ hs=>((Below.refl w.heap.size w).alloc (Nat.le_refl _) o).block b hs
theorem CmIn.under {B:Nat} {w w':World} {c:Cm} {cv vv fv ea wa:Value} (h:CmIn B w c cv vv fv ea wa) (hb:Below w.heap.size w w'):CmIn B w' c cv vv fv ea wa :=
 h.keep hb.size fun b _ hs=>hb.block b hs
theorem CmIn.putAll {B:Nat} {w:World} {c:Cm} {cv vv fv ea wa:Value} (h:CmIn B w c cv vv fv ea wa) {b:Nat} (hb:b < B) (o:Nat) (ys:List Value):CmIn B (putAll w b o ys) c cv vv fv ea wa :=
 h.keep (Nat.le_of_eq (yaQ b ys w o).symm) fun c hc _=>yag b ys w o c (by omega)
theorem CmIn.weak {B B':Nat} {w:World} {c:Cm} {cv vv fv ea wa:Value} (h:CmIn B w c cv vv fv ea wa) (hB:B'≤B):CmIn B' w c cv vv fv ea wa :=
 ⟨h.cols.weak hB,h.vals.weak hB,h.fields.weak hB,h.expr.weak hB,h.wh.weak hB⟩
def ypL (B:Nat) (w:World) (u:Value) (c:Cm):Prop :=
 ∃ cv vv fv ea wa,u=.agg (cmL c cv vv fv ea wa).toArray∧CmIn B w c cv vv fv ea wa
def ypW (B:Nat) (w:World) (u:Value) (c:Cm):Prop:=ypL B w u c
theorem yfD (b:Nat):∀ (vs:List Value) (w:World) (o:Nat),w.setCells b o vs=putAll w b o vs:=by
 intro vs
 induction vs with
 | nil=>intro w o;rfl
 | cons x vs ih=>intro w o;rw [World.setCells,putAll,ih]
theorem ykz {b:Nat} {t:TypeId}:∀ (xs mid:List Value) (W:World) (pre post:List Value),mid.length=xs.length→W.heap[b]?=some (.cells (pre++mid++post).toArray t) →
  (putAll W b pre.length xs).heap[b]?=some (.cells (pre++xs++post).toArray t):=by
 intro xs
 induction xs with
 | nil=>intro mid W pre post hl h;cases mid with
  | nil=>exact h
  | cons _ _=>cases hl
 | cons x xs ih =>
  intro mid W pre post hl h
  cases mid with
  | nil=>cases hl
  | cons y mid =>
   have h1:=heap_setCell_same W b pre.length _ t x h
   have e:(pre++y::mid++post).toArray.setIfInBounds pre.length x=((pre++[x])++mid++post).toArray:=by simp
   rw [e] at h1
   have:=ih mid (W.setCell ⟨b,pre.length,none⟩ x) (pre++[x]) post (by simpa using hl) h1
   rw [putAll]
   simpa using this
theorem ypC {w:World} {b:Nat} {cs:List Value} {t:TypeId} (hb:w.heap[b]?=some (.cells cs.toArray t)) (o n:Nat) (hn:o+n≤cs.length):w.there b o n:=by
 intro j hj
 refine ⟨?_,Lib.frozen_of_heap hb _⟩
 rw [Lib.cell_of_heap hb]
 have:cs.toArray[o+j]?=some (cs[o+j]'(by omega)):=by simp [List.getElem?_eq_getElem (show o+j < cs.length by omega)]
 rw [this];rfl
section
variable {P:Program} {ops:Array Oper} {rest:List Oper} {op:Oper} {a:Act} {w:World} {Q:Exit→Act→World→Prop}
theorem ybj (ty:TypeId) (x y:Operand) (hgd:op.guard=none) (ho:op.op=.store ty x y) (b:Nat) (pre mid post xs:List Value) (t:TypeId)
  (hx:a.eval x=.pointer (some ⟨b,pre.length,none⟩)) (hy:a.eval y=.agg xs.toArray) (hb:w.heap[b]?=some (.cells (pre++mid++post).toArray t)) (hl:mid.length=xs.length)
  (hi:(P.info? ty).map (·.size)=some xs.length) (h1:∀ v ∈ xs,v.oneCell'=true)
  (h:∀ w',w'.heap[b]?=some (.cells (pre++xs++post).toArray t)→Hid (w'=putAll w b pre.length xs)→wpList P ops Q rest (a.put op.dst undef) w'):wpList P ops Q (op::rest) a w:=by
 refine wpList_store_mid hgd ty x y ho b pre.length xs.toArray hx hy (ypC hb _ _ (by simp;omega)) (by simpa using hi) (all_oneCell_toArray h1) ?_
 have e:w.setCells b pre.length xs.toArray.toList=putAll w b pre.length xs:=by simpa using yfD b xs w pre.length
 rw [e]
 exact h _ (ykz xs mid w pre post hl hb) (yae rfl)
theorem yab (ty:TypeId) (x y:Operand) (hgd:op.guard=none) (ho:op.op=.store ty x y) (b:Nat) (cs xs:List Value) (t:TypeId)
  (hx:a.eval x=.pointer (some ⟨b,0,none⟩)) (hy:a.eval y=.agg xs.toArray) (hb:w.heap[b]?=some (.cells cs.toArray t)) (hl:cs.length=xs.length)
  (hi:(P.info? ty).map (·.size)=some xs.length) (h1:∀ v ∈ xs,v.oneCell'=true)
  (h:∀ w',w'.heap[b]?=some (.cells xs.toArray t)→Hid (w'=putAll w b 0 xs)→wpList P ops Q rest (a.put op.dst undef) w'):wpList P ops Q (op::rest) a w:=by
 refine ybj ty x y hgd ho b [] cs [] xs t hx hy (by simpa using hb) hl hi h1 fun w' hw hp=>h w' (by simpa using hw) hp
theorem yaf (ty:TypeId) (x:Operand) (hgd:op.guard=none) (ho:op.op=.load ty x) (b:Nat) (cs:List Value) (t:TypeId) (d:TypeDesc)
  (hx:a.eval x=.pointer (some ⟨b,0,none⟩)) (hb:w.heap[b]?=some (.cells cs.toArray t)) (hu:P.underlying ty=some d) (hd:d.isRow=true) (hi:(P.info? ty).map (·.size)=some cs.length)
  (h:wpList P ops Q rest (a.put op.dst (.agg cs.toArray)) w):wpList P ops Q (op::rest) a w :=
 wpList_load_mid hgd ty x ho b 0 hx cs d (fun j v hv=>by rw [Nat.zero_add,Lib.cell_of_heap hb];simpa using hv) hu hd hi h
theorem yac (slot:Nat) (ty:TypeId) (zs:List Value) (hd:op.dst=some slot) (hgd:op.guard=none) (ho:op.op=.alloc ty) (hz:∀ w,(Instr.alloc ty true (.tuple #[])).run P w=.ok (.pointer (some ⟨w.heap.size,0,none⟩)) (w.alloc (.cells zs.toArray ty)))
  (h:∀ w' b,Hid (b=w.heap.size)→w'.heap[b]?=some (.cells zs.toArray ty)→Below w.heap.size w w'→wpList P ops Q rest (a.put (some slot) (.pointer (some ⟨b,0,none⟩))) w'):wpList P ops Q (op::rest) a w:=by
 refine wpList_plain hgd fun K hK=>?_
 rw [← hd] at h
 unfold Oper.wp execOp
 simp only [ho,hz,Result.andThen_ok,Sem.run_bind]
 exact hK _ _ (h _ _ (yae rfl) (heap_alloc_new _ _) ((Below.refl _ _).alloc (Nat.le_refl _) _))
end
theorem yah {P:Program} {fn:Func} {s:Tmp} {ty:TypeId} (hr:fn.results=#[.cell s ty]) (tmps:Array Value) (w:World) (b:Nat) (cs:List Value) (t:TypeId) (d:TypeDesc) (hs:tmps.getD s undef=.pointer (some ⟨b,0,none⟩))
  (hb:w.heap[b]?=some (.cells cs.toArray t)) (hu:P.underlying ty=some d) (hd:d.isRow=true) (hi:(P.info? ty).map (·.size)=some cs.length) :
  (results fn tmps).run P w=.ok (.agg cs.toArray) w:=by
 have h:=run_loadVar_mid (P:=P) w b 0 ty cs d (fun j v hv=>by rw [Nat.zero_add,Lib.cell_of_heap hb];simpa using hv) hu hd hi
 have hs':tmps[s]?.getD undef=.pointer (some ⟨b,0,none⟩):=by simpa using hs
 simp [results,hr,hs',asAddr,h]
theorem Tryz.size31:(Tryz.prog.info? 31).map (·.size)=some 26:=by kernel_rfl
theorem Tryz.size29:(Tryz.prog.info? 29).map (·.size)=some 6:=by kernel_rfl
theorem Tryz.size24:(Tryz.prog.info? 24).map (·.size)=some 3:=by kernel_rfl
theorem RowAt.one {B:Nat} {w:World} {u:Value} {n:Nat} {xs:List Value} (h:RowAt B w u n xs):u.oneCell'=true:=by
 obtain ⟨ao,cap,rfl⟩:=h.form;rfl
theorem ExAt.one {B:Nat} {w:World} {k:Int} {x:Vl} {nm:List UInt8} {a:Value} {y:Ex} (h:ExAt B w (exV k x nm a) y):a.oneCell'=true:=by
 obtain ⟨k',x',nm',ao,n,cap,e⟩:=h.form
 simp only [exV,Value.agg.injEq,Array.mk.injEq,List.cons.injEq] at e
 rw [e.2.2.2.2.2.1];rfl
theorem ExAt.parts {B:Nat} {w:World} {k:Int} {x:Vl} {nm:List UInt8} {a:Value} {y:Ex} (h:ExAt B w (exV k x nm a) y):k=y.k∧x=y.v∧nm=y.nm:=by
 have go:∀ (u:Value),ExAt B w u y→u=exV k x nm a→k=y.k∧x=y.v∧nm=y.nm:=by
  intro u hu e
  cases hu with
  | nil k' x' nm' ao cap _ =>
   obtain ⟨xk,xn,xs⟩:=x
   obtain ⟨xk',xn',xs'⟩:=x'
   simp only [exV,Value.agg.injEq,Array.mk.injEq,List.cons.injEq,Value.int.injEq,Value.string.injEq,ByteArray.mk.injEq,true_and] at e
   simp [Ex.k,Ex.v,Ex.nm,← e.1,← e.2.1,← e.2.2.1,← e.2.2.2.1,← e.2.2.2.2.1]
  | args k' x' nm' b off cap xs' us =>
   obtain ⟨xk,xn,xs⟩:=x
   obtain ⟨xk',xn',xs''⟩:=x'
   simp only [exV,Value.agg.injEq,Array.mk.injEq,List.cons.injEq,Value.int.injEq,Value.string.injEq,ByteArray.mk.injEq,true_and] at e
   simp [Ex.k,Ex.v,Ex.nm,← e.1,← e.2.1,← e.2.2.1,← e.2.2.2.1,← e.2.2.2.2.1]
 exact go _ h rfl
theorem CmIn.one {B:Nat} {w:World} {c:Cm} {cv vv fv ea wa:Value} (h:CmIn B w c cv vv fv ea wa):∀ v ∈ cmL c cv vv fv ea wa,v.oneCell'=true:=by
 have h1:=h.cols.one
 have h2:=h.vals.one
 have h3:=h.fields.one
 have h4:=h.expr.one
 have h5:=h.wh.one
 intro v hv
 simp only [cmL,List.mem_cons,List.not_mem_nil,or_false] at hv
 rcases hv with rfl|rfl|rfl|rfl|rfl|rfl|rfl|rfl|rfl|rfl|rfl|rfl|rfl|rfl|rfl|rfl|rfl|rfl|rfl|rfl|rfl|rfl|rfl|rfl|rfl|rfl <;> first|rfl|assumption
theorem yb6 (B:Nat) (w:World) (c:Cm) (h1:c.cols=[]) (h2:c.vals=[]) (h3:c.fields=[]) (h4:c.expr=ex0) (h5:c.wh=ex0):CmIn B w c (.slice none 0 0) (.slice none 0 0) (.slice none 0 0) (.slice none 0 0) (.slice none 0 0):=by
 refine ⟨?_, ?_, ?_, ?_, ?_⟩
 ·rw [h1];exact .nil _ _ _
 ·rw [h2];exact .nil _ _ _
 ·rw [h3];exact .nil _ _ _
 ·rw [h4];exact .nil _ _ _ _ _ (fun _=>rfl)
 ·rw [h5];exact .nil _ _ _ _ _ (fun _=>rfl)
theorem ypJ:(#[.int .i64 0,.string ⟨#[]⟩,.string ⟨#[]⟩,.string ⟨#[]⟩,.slice none 0 0,.int .i64 0,.int .i64 0,.int .i64 0,.string ⟨#[]⟩,.slice none 0 0,.slice none 0 0,.int .i64 0,.int .i64 0,.int .i64 0,.string ⟨#[]⟩,.string ⟨#[]⟩,.slice none 0 0,.bool false,.int .i64 0,.int .i64 0,.int .i64 0,.string ⟨#[]⟩,.string ⟨#[]⟩,.slice none 0 0,.string ⟨#[]⟩,.int .i64 0]:Array Value)=(cmL cm0 (.slice none 0 0) (.slice none 0 0) (.slice none 0 0) (.slice none 0 0) (.slice none 0 0)).toArray:=rfl
theorem Tryz.alloc31 (w:World):(Instr.alloc 31 true (.tuple #[])).run Tryz.prog w=.ok (.pointer (some ⟨w.heap.size,0,none⟩)) (w.alloc (.cells (cmL cm0 (.slice none 0 0) (.slice none 0 0) (.slice none 0 0) (.slice none 0 0) (.slice none 0 0)).toArray 31)):=by
 rw [← ypJ]
 simp [Instr.alloc,Tryz.zeroValue31,go_sem]
structure OutC (W:World) (base pb:Nat) (v:Value) (T:List Tk) (en:Int) (cb:Nat) (good:World→Cm→Prop) (r:Rs Cm) (e:Ending) (w':World):Prop where
 os:w'.os=W.os
 tape:w'.tape=W.tape
 output:w'.output=W.output
 size:W.heap.size≤w'.heap.size
 block:∀ k,k < W.heap.size→k≠pb→k≠cb→w'.heap[k]?=W.heap[k]?
 ok:∀ c' j,r=.ok c' j→e=.returned (.tuple #[])∧good w' c'∧St w' base pb v T en j
 bad:∀ j,r=.bad j→e=pan (pl T en j)
theorem yg3 {w:World} {base pb:Nat} {v:Value} {T:List Tk} {en:Int} {i:Nat} (h:St w base pb v T en i):Calls Tryz.prog 150 #[.pointer (some ⟨pb,0,none⟩),.int .i64 0] w fun e w'=>Out w base pb v T en (yiS w.heap.size) (ybd T 60 i) e w' :=
 ynY 60 (Nat.le_refl _) w i h
def ytH (cb B:Nat) (cv vv fv ea:Value) (w':World) (c':Cm):Prop :=
 ∃ wa,w'.heap[cb]?=some (.cells (cmL c' cv vv fv ea wa).toArray 31)∧ExAt B w' (exV c'.wh.k c'.wh.v c'.wh.nm wa) c'.wh
theorem yez {w:World} {base pb:Nat} {v:Value} {T:List Tk} {en:Int} {i:Nat} (h:St w base pb v T en i) (cb:Nat) (hfc:cb≠pb∧v.ownBlock≠some cb∧6≤cb) (c:Cm) (cv vv fv ea:Value) (hc:w.heap[cb]?=some (.cells (cmL c cv vv fv ea (.slice none 0 0)).toArray 31)) (hw0:c.wh=ex0) :
  Calls Tryz.prog 149 #[.pointer (some ⟨pb,0,none⟩),.pointer (some ⟨cb,0,none⟩)] w fun e w'=>OutC w base pb v T en cb (ytH cb w.heap.size cv vv fv ea) (ybh T c i) e w':=by
 have hm:=yc0 h w_where (by decide)
 have hcl:=(ltS hc)
 have HW:Hid (c.wh=ex0):=hw0
 clear hw0
 by_cases ht:tx T i=w_where
 ·simp only [ht,if_true,decide_true] at hm
  have H0:Hid (ybh T c i=(ybd T 60 (i+1)).then fun e j=>.ok { c with all:=false,wh:=e } j):=by show _=_;rw [ybh,may,if_pos ht];rfl
  clear ht
  go_enter Tryz.func149,Tryz.ntmps149
  go_wp2_with fail
  refine hm.mono ?_
  rintro e w1 ⟨rfl,g1,s1⟩
  have c1:=(g1.block cb hcl (by simpa using hfc.1)).trans hc
  have qa:w1.cell? ⟨cb,17,none⟩=some (.bool c.all):=(Lib.cell_of_heap c1 17).trans rfl
  have qb:w1.frozen? ⟨cb,17,none⟩=false:=Lib.frozen_of_heap c1 17
  have c2:(w1.setCell ⟨cb,17,none⟩ (.bool false)).heap[cb]?=some (.cells (cmL { c with all:=false } cv vv fv ea (.slice none 0 0)).toArray 31):=heap_setCell_same _ _ _ _ 31 _ c1
  have s2:=s1.put hfc 17 (.bool false)
  have b2:∀ k,k < w.heap.size→k≠pb→k≠cb→(w1.setCell ⟨cb,17,none⟩ (.bool false)).heap[k]?=w.heap[k]?:=fun k hk hp hq=>(heap_setCell_other w1 _ k _ hq).trans (g1.block k hk (by simpa using hp))
  have z2:w.heap.size≤(w1.setCell ⟨cb,17,none⟩ (.bool false)).heap.size:=by simpa [World.setCell] using g1.size
  have o2:(w1.setCell ⟨cb,17,none⟩ (.bool false)).os=w.os∧(w1.setCell ⟨cb,17,none⟩ (.bool false)).tape=w.tape∧(w1.setCell ⟨cb,17,none⟩ (.bool false)).output=w.output:=⟨g1.os,g1.tape,g1.output⟩
  have q2:(w1.setCell ⟨cb,17,none⟩ (.bool false)).cell? ⟨cb,17,none⟩=some (.bool false):=(Lib.cell_of_heap c2 17).trans rfl
  generalize hW2:w1.setCell ⟨cb,17,none⟩ (.bool false)=w2 at c2 s2 b2 z2 o2 q2
  clear hm g1 s1 c1 hc
  go_wp2_with fail
  refine (yg3 s2).mono ?_
  intro e w3 o3
  have c3:=(o3.grown.block cb (ltS c2) (by simpa using hfc.1)).trans c2
  have b3:∀ k,k < w.heap.size→k≠pb→k≠cb→w3.heap[k]?=w.heap[k]?:=fun k hk hp hq=>(o3.grown.block k (Nat.lt_of_lt_of_le hk z2) (by simpa using hp)).trans (b2 k hk hp hq)
  have z3:=Nat.le_trans z2 o3.grown.size
  have o3':w3.os=w.os∧w3.tape=w.tape∧w3.output=w.output:=⟨o3.grown.os.trans o2.1,o3.grown.tape.trans o2.2.1,o3.grown.output.trans o2.2.2⟩
  cases hy:ybd T 60 (i+1) with
  | bad j =>
   obtain rfl:=o3.bad j hy
   have H1:ybh T c i=.bad j:=by rw [H0.out,hy];rfl
   exact ⟨rfl,⟨o3'.1,o3'.2.1,o3'.2.2,z3,b3,(by intro c' j' hh;rw [H1] at hh;cases hh),(by intro j' hh;rw [H1] at hh;cases hh;rfl)⟩⟩
  | ok y j =>
   obtain ⟨u,rfl,hx,s3⟩:=o3.ok y j hy
   obtain ⟨k,x,nm,ao,na,ca,hu⟩:=ExAt.form hx
   have hform:k=y.k∧x=y.v∧nm=y.nm:=ExAt.parts (hu ▸ hx)
   obtain ⟨rfl,rfl,rfl⟩:=hform
   subst hu
   have H1:Hid (ybh T c i=.ok { c with all:=false,wh:=y } j):=by show _=_;rw [H0.out,hy];rfl
   have hx:ExAt w2.heap.size w3 (exV y.k y.v y.nm (.slice ao na ca)) y:=hx
   have hcb2:=(ltS c2)
   clear hy o3 c2 s2 b2 o2 q2 qa qb hW2 H0
   rw [exV]
   go_wp2_with (refine ybj 29 _ _ rfl rfl cb ((cmL { c with all:=false } cv vv fv ea (.slice none 0 0)).take 18) (((cmL { c with all:=false } cv vv fv ea (.slice none 0 0)).drop 18).take 6) ((cmL { c with all:=false } cv vv fv ea (.slice none 0 0)).drop 24) [.int .i64 y.k,.int .i64 y.v.k,.int .i64 y.v.n,.string ⟨y.v.s.toArray⟩,.string ⟨y.nm.toArray⟩,.slice ao na ca] 31 rfl rfl (by exact c3) rfl Tryz.size29 (by intro v hv;simp only [List.mem_cons,List.not_mem_nil,or_false] at hv;rcases hv with rfl|rfl|rfl|rfl|rfl|rfl <;> rfl) ?_;intro wz kz pz)
   go_end0
   have kz':wz.heap[cb]?=some (.cells (cmL { c with all:=false,wh:=y } cv vv fv ea (.slice ao na ca)).toArray 31):=kz
   have pz':wz=putAll w3 cb 18 _:=pz.out
   have hg:=ybN cb [.int .i64 y.k,.int .i64 y.v.k,.int .i64 y.v.n,.string ⟨y.v.s.toArray⟩,.string ⟨y.nm.toArray⟩,.slice ao na ca] w3 18
   rw [← pz'] at hg
   refine ⟨hg.os.trans o3'.1,hg.tape.trans o3'.2.1,hg.output.trans o3'.2.2,Nat.le_trans z3 hg.size,fun k hk hp hq=>(hg.block k (Nat.lt_of_lt_of_le hk z3) (by simpa using hq)).trans (b3 k hk hp hq), ?_,(by intro j' hh;rw [H1.out] at hh;cases hh)⟩
   intro c' j' hh
   rw [H1.out] at hh
   cases hh
   refine ⟨rfl,⟨_,kz', ?_⟩, ?_⟩
   ·rw [pz'];exact ((ExAt.putAll hx (Nat.lt_of_lt_of_le hcl z2) 18 _).weak z2)
   ·rw [pz'];exact s3.putAll hfc 18 _
 ·simp only [ht,if_false,decide_false] at hm
  have H0:Hid (ybh T c i=.ok { c with all:=true } i):=by show _=_;rw [ybh,may,if_neg ht];rfl
  clear ht
  go_enter Tryz.func149,Tryz.ntmps149
  go_wp2_with fail
  refine hm.mono ?_
  rintro e w1 ⟨rfl,g1,s1⟩
  have c1:=(g1.block cb hcl (by simpa using hfc.1)).trans hc
  have qa:w1.cell? ⟨cb,17,none⟩=some (.bool c.all):=(Lib.cell_of_heap c1 17).trans rfl
  have qb:w1.frozen? ⟨cb,17,none⟩=false:=Lib.frozen_of_heap c1 17
  have c2:(w1.setCell ⟨cb,17,none⟩ (.bool true)).heap[cb]?=some (.cells (cmL { c with all:=true } cv vv fv ea (.slice none 0 0)).toArray 31):=heap_setCell_same _ _ _ _ 31 _ c1
  have s2:=s1.put hfc 17 (.bool true)
  have b2:∀ k,k < w.heap.size→k≠pb→k≠cb→(w1.setCell ⟨cb,17,none⟩ (.bool true)).heap[k]?=w.heap[k]?:=fun k hk hp hq=>(heap_setCell_other w1 _ k _ hq).trans (g1.block k hk (by simpa using hp))
  have z2:w.heap.size≤(w1.setCell ⟨cb,17,none⟩ (.bool true)).heap.size:=by simpa [World.setCell] using g1.size
  have o2:(w1.setCell ⟨cb,17,none⟩ (.bool true)).os=w.os∧(w1.setCell ⟨cb,17,none⟩ (.bool true)).tape=w.tape∧(w1.setCell ⟨cb,17,none⟩ (.bool true)).output=w.output:=⟨g1.os,g1.tape,g1.output⟩
  have q2:(w1.setCell ⟨cb,17,none⟩ (.bool true)).cell? ⟨cb,17,none⟩=some (.bool true):=(Lib.cell_of_heap c2 17).trans rfl
  generalize hW2:w1.setCell ⟨cb,17,none⟩ (.bool true)=w2 at c2 s2 b2 z2 o2 q2
  clear hm g1 s1 c1 hc
  go_wp2_with fail
  go_end0
  refine ⟨o2.1,o2.2.1,o2.2.2,z2,b2, ?_,(by intro j' hh;rw [H0.out] at hh;cases hh)⟩
  intro c' j' hh
  rw [H0.out] at hh
  cases hh
  refine ⟨rfl,⟨_,c2, ?_⟩,s2⟩
  show ExAt _ _ (exV c.wh.k c.wh.v c.wh.nm _) c.wh
  rw [HW.out]
  exact .nil _ _ _ _ _ (fun _=>rfl)
end Go.Proofs.YtkpeklealgicpabGreatDoor
