/-
  'isExpr' of package command.
  'isExpr' of package command, whole.
  'areColumns', 'areValues', 'isWhere', 'namedBy' of package command.
  'isWhere', what 'namedBy' answers of no kind, and the choice in 'isRight'.
  'isLong' of package command.
  'isLong' of package command: the loop.
  'hasMany' of package command.
  What Check takes, and what the document's Check takes: they are the same.
  Regions that draw their order, of which nothing is wanted any more: whatever the order, each slot that is not guarded holds false.
  'isRight' of package command.
-/
import Derived.Deep.RegionHeld3
import Derived.Deep.QuietTactic
import Derived.BigQuiet
import Derived.Laws.AppendOwnNone
import Derived.Test.YtkpeklealgicpabGreatDoorQa
import Derived.Test.YtkpeklealgicpabGreatDoorQb

set_option maxRecDepth 100000
set_option maxHeartbeats 8000000
namespace Go.Proofs.YtkpeklealgicpabGreatDoor
open Go.RowKit
theorem yiq (k:Int) (x:Vl) (nm:List UInt8) (ao:Option Addr) (n ca:Nat) (w:World) (hk:k=1) (hs:x.s.length≤140737488355328) :
  Calls Tryz.prog 78 #[.agg #[.int .i64 k,.int .i64 x.k,.int .i64 x.n,.string ⟨x.s.toArray⟩,.string ⟨nm.toArray⟩,.slice ao n ca]] w fun e w'=>e=.returned (.bool (ybJ x&&decide (nm=[])&&decide (n=0)))∧Below w.heap.size w w':=by
 subst hk
 have b0:=(Below.refl w.heap.size w).alloc (Nat.le_refl _) (.cells #[.int .i64 1,.int .i64 x.k,.int .i64 x.n,.string ⟨x.s.toArray⟩,.string ⟨nm.toArray⟩,.slice ao n ca] 29)
 have h:=ydk x (w.alloc (.cells #[.int .i64 1,.int .i64 x.k,.int .i64 x.n,.string ⟨x.s.toArray⟩,.string ⟨nm.toArray⟩,.slice ao n ca] 29)) hs
 generalize ybJ x=B at h ⊢
 have hn:nm.isEmpty=decide (nm=[]):=by cases nm <;> simp
 have ha:((n:Int) == 0)=decide (n=0):=by rw [Bool.eq_iff_iff];simp
 generalize decide (nm=[])=M at hn ⊢
 generalize decide (n=0)=A at ha ⊢
 cases B <;> cases M
 all_goals
  go_enter Tryz.func78,Tryz.ntmps78
  go_wp2_with (go_at_call 75;refine h.mono ?_;rintro e w1 ⟨rfl,b1⟩;have d4:w1.cell? ⟨w.heap.size,4,none⟩=some (.string ⟨nm.toArray⟩):=(b1.cell (by simp)).trans (by simp);have d5:w1.cell? ⟨w.heap.size,5,none⟩=some (.slice ao n ca):=(b1.cell (by simp)).trans (by simp))
  go_ret
  refine ⟨yaw ?_,b0.trans (b1.mono (by simp))⟩
  first|rfl|simp_all
theorem yir (k:Int) (x:Vl) (nm:List UInt8) (ao:Option Addr) (n ca:Nat) (w:World) (hk:k=2) (hs:nm.length≤140737488355328) {EP:Prop} (hl:LaidIf EP w) :
  Calls Tryz.prog 78 #[.agg #[.int .i64 k,.int .i64 x.k,.int .i64 x.n,.string ⟨x.s.toArray⟩,.string ⟨nm.toArray⟩,.slice ao n ca]] w fun e w'=>e=.returned (.bool (ybu x&&yan nm&&decide (n=0)))∧Below w.heap.size w w':=by
 subst hk
 have b0:=(Below.refl w.heap.size w).alloc (Nat.le_refl _) (.cells #[.int .i64 2,.int .i64 x.k,.int .i64 x.n,.string ⟨x.s.toArray⟩,.string ⟨nm.toArray⟩,.slice ao n ca] 29)
 have h:=yc6 ⟨nm.toArray⟩ (w.alloc (.cells #[.int .i64 2,.int .i64 x.k,.int .i64 x.n,.string ⟨x.s.toArray⟩,.string ⟨nm.toArray⟩,.slice ao n ca] 29)) (by rw [yam];exact hs) (hl.below b0)
 have e0:(⟨nm.toArray⟩:ByteArray).data.toList=nm:=by simp
 rw [e0] at h
 have hq:=yi6
 have hv:=yqR x
 generalize ybu x=B at hv ⊢
 generalize yan nm=M at h ⊢
 have ha:((n:Int) == 0)=decide (n=0):=by rw [Bool.eq_iff_iff];simp
 generalize decide (n=0)=A at ha ⊢
 cases B
 ·go_enter Tryz.func78,Tryz.ntmps78
  go_wp2_with fail
  go_ret
  exact ⟨yaw (by first|rfl|simp_all),b0⟩
 ·cases M
  all_goals
   go_enter Tryz.func78,Tryz.ntmps78
   go_wp2_with (go_at_call 72;refine h.mono ?_;rintro e w1 ⟨rfl,b1⟩;have d5:w1.cell? ⟨w.heap.size,5,none⟩=some (.slice ao n ca):=(b1.cell (by simp)).trans (by simp))
   go_ret
   refine ⟨yaw ?_,b0.trans (b1.mono (by simp))⟩
   first|rfl|simp_all
theorem yqs {w W W':World} {k:Int} {x:Vl} {nm:List UInt8} {ao:Option Addr} {n ca:Nat}
  (h:W.cell? ⟨w.heap.size,0,none⟩=some (.int .i64 k)∧W.cell? ⟨w.heap.size,1,none⟩=some (.int .i64 x.k)∧W.cell? ⟨w.heap.size,2,none⟩=some (.int .i64 x.n)∧W.cell? ⟨w.heap.size,3,none⟩=some (.string ⟨x.s.toArray⟩)∧W.cell? ⟨w.heap.size,4,none⟩=some (.string ⟨nm.toArray⟩)∧W.cell? ⟨w.heap.size,5,none⟩=some (.slice ao n ca)∧Below w.heap.size w W∧w.heap.size < W.heap.size) (hb:Below W.heap.size W W') :
  W'.cell? ⟨w.heap.size,0,none⟩=some (.int .i64 k)∧W'.cell? ⟨w.heap.size,1,none⟩=some (.int .i64 x.k)∧W'.cell? ⟨w.heap.size,2,none⟩=some (.int .i64 x.n)∧W'.cell? ⟨w.heap.size,3,none⟩=some (.string ⟨x.s.toArray⟩)∧W'.cell? ⟨w.heap.size,4,none⟩=some (.string ⟨nm.toArray⟩)∧W'.cell? ⟨w.heap.size,5,none⟩=some (.slice ao n ca)∧Below w.heap.size w W'∧w.heap.size < W'.heap.size:=by
 obtain ⟨h0,h1,h2,h3,h4,h5,h6,h7⟩:=h
 exact ⟨(hb.cell h7).trans h0,(hb.cell h7).trans h1,(hb.cell h7).trans h2,(hb.cell h7).trans h3,(hb.cell h7).trans h4,(hb.cell h7).trans h5,h6.trans (hb.mono h6.size),Nat.lt_of_lt_of_le h7 hb.size⟩
theorem yfR (k:Int) (x:Vl) (nm:List UInt8) (ao:Option Addr) (n ca:Nat) (w:World) (h1:(k == 1)=false) (h2:(k == 2)=false) (B M:Bool) (hv:ycX x.k x.n ⟨x.s.toArray⟩ 0 0 ⟨#[]⟩=B) (hn:nm.isEmpty=M) (hoff:B=false∨M=false∨n=0) :
  Calls Tryz.prog 78 #[.agg #[.int .i64 k,.int .i64 x.k,.int .i64 x.n,.string ⟨x.s.toArray⟩,.string ⟨nm.toArray⟩,.slice ao n ca]] w fun e w'=>e=.returned (.bool false)∧Below w.heap.size w w':=by
 have b0:=(Below.refl w.heap.size w).alloc (Nat.le_refl _) (.cells #[.int .i64 k,.int .i64 x.k,.int .i64 x.n,.string ⟨x.s.toArray⟩,.string ⟨nm.toArray⟩,.slice ao n ca] 29)
 have hq:=yi6
 cases B
 ·clear hoff
  go_enter Tryz.func78,Tryz.ntmps78
  go_wp2_with fail
  go_quiet (fail)
  go_wp2
  go_ret
  exact ⟨rfl,below_drewN b0 _⟩
 ·cases M
  ·clear hoff
   go_enter Tryz.func78,Tryz.ntmps78
   go_wp2_with fail
   go_quiet (fail)
   go_wp2
   go_ret
   exact ⟨rfl,below_drewN b0 _⟩
  ·have h0:n=0:=by simpa using hoff
   subst h0
   clear hoff
   go_enter Tryz.func78,Tryz.ntmps78
   go_wp2_with fail
   go_quiet (fail)
   go_wp2
   go_ret
   exact ⟨rfl,below_drewN b0 _⟩
theorem yau {P:Program} {ops:Array Oper} {Q:Exit→Act→World→Prop} {md:Region.Mode} {S:World→Prop} (i d:Nat) {oi:Oper} {v:Value} {fuel:Nat} {listed:Array Bool} {a:Act} {w:World} (hi:ops[i]?=some oi) (hd:oi.dst=some d)
  (hs:Region.noSelect ops=true) (hf:Region.free md ops listed i=true) (hr:(Region.ready md ops listed).contains i=true)
  (hQ:∀ c a w,Q (.panic c) (a.put (some d) v) w→Q (.panic c) a w) (hy:YieldsIf P ops S oi v a) (hS:S w)
  (h:wpAnyH P md ops Q S fuel (listed.setIfInBounds i true) { tmps:=a.tmps.setIfInBounds d v,defers:=a.defers } w):wpAnyH P md ops Q S (fuel+1) listed a w :=
 wpAnyH_take hi hs hf hr (by rw [hd];exact hQ) hy hS (by rw [hd];exact h)
theorem ynX (k:Int) (x:Vl) (nm:List UInt8) (ao:Option Addr) (n ca:Nat) (w:World) (h1:(k == 1)=false) (h2:(k == 2)=false) (hv:ycX x.k x.n ⟨x.s.toArray⟩ 0 0 ⟨#[]⟩=true) (hn:nm.isEmpty=true) (h0:0 < n) (r:Nat) (hr:((n:Int) == (r:Int))=false)
  (ha:∀ W,Calls Tryz.prog 128 #[.int .i64 k] W fun e w'=>e=.returned (.int .i64 (r:Int))∧Below W.heap.size W w') :
  Calls Tryz.prog 78 #[.agg #[.int .i64 k,.int .i64 x.k,.int .i64 x.n,.string ⟨x.s.toArray⟩,.string ⟨nm.toArray⟩,.slice ao n ca]] w fun e w'=>e=.returned (.bool false)∧Below w.heap.size w w':=by
 have b0:=(Below.refl w.heap.size w).alloc (Nat.le_refl _) (.cells #[.int .i64 k,.int .i64 x.k,.int .i64 x.n,.string ⟨x.s.toArray⟩,.string ⟨nm.toArray⟩,.slice ao n ca] 29)
 have hq:=yi6
 have h0':(0:Int) < (n:Int):=by omega
 have hr2:(n == r)=false:=by rw [beq_eq_false_iff_ne] at hr ⊢;omega
 have hr3:¬ n=r:=by rw [beq_eq_false_iff_ne] at hr;omega
 have hr4:decide (n=r)=false:=by simpa using hr3
 have hr5:¬ (n:Int)=(r:Int):=by omega
 have hr6:decide ((n:Int)=(r:Int))=false:=by simpa using hr5
 have hd0:decide ((0:Int) < (n:Int))=true:=by simpa using h0
 have hd1:decide (0 < n)=true:=by simpa using h0
 have y0:(w.alloc (.cells #[.int .i64 k,.int .i64 x.k,.int .i64 x.n,.string ⟨x.s.toArray⟩,.string ⟨nm.toArray⟩,.slice ao n ca] 29)).drew.cell? ⟨w.heap.size,0,none⟩=some (.int .i64 k):=(Lib.cell_of_heap (heap_alloc_new w (.cells #[.int .i64 k,.int .i64 x.k,.int .i64 x.n,.string ⟨x.s.toArray⟩,.string ⟨nm.toArray⟩,.slice ao n ca] 29)) 0).trans rfl
 have y1:(w.alloc (.cells #[.int .i64 k,.int .i64 x.k,.int .i64 x.n,.string ⟨x.s.toArray⟩,.string ⟨nm.toArray⟩,.slice ao n ca] 29)).drew.cell? ⟨w.heap.size,1,none⟩=some (.int .i64 x.k):=(Lib.cell_of_heap (heap_alloc_new w (.cells #[.int .i64 k,.int .i64 x.k,.int .i64 x.n,.string ⟨x.s.toArray⟩,.string ⟨nm.toArray⟩,.slice ao n ca] 29)) 1).trans rfl
 have y2:(w.alloc (.cells #[.int .i64 k,.int .i64 x.k,.int .i64 x.n,.string ⟨x.s.toArray⟩,.string ⟨nm.toArray⟩,.slice ao n ca] 29)).drew.cell? ⟨w.heap.size,2,none⟩=some (.int .i64 x.n):=(Lib.cell_of_heap (heap_alloc_new w (.cells #[.int .i64 k,.int .i64 x.k,.int .i64 x.n,.string ⟨x.s.toArray⟩,.string ⟨nm.toArray⟩,.slice ao n ca] 29)) 2).trans rfl
 have y3:(w.alloc (.cells #[.int .i64 k,.int .i64 x.k,.int .i64 x.n,.string ⟨x.s.toArray⟩,.string ⟨nm.toArray⟩,.slice ao n ca] 29)).drew.cell? ⟨w.heap.size,3,none⟩=some (.string ⟨x.s.toArray⟩):=(Lib.cell_of_heap (heap_alloc_new w (.cells #[.int .i64 k,.int .i64 x.k,.int .i64 x.n,.string ⟨x.s.toArray⟩,.string ⟨nm.toArray⟩,.slice ao n ca] 29)) 3).trans rfl
 have y4:(w.alloc (.cells #[.int .i64 k,.int .i64 x.k,.int .i64 x.n,.string ⟨x.s.toArray⟩,.string ⟨nm.toArray⟩,.slice ao n ca] 29)).drew.cell? ⟨w.heap.size,4,none⟩=some (.string ⟨nm.toArray⟩):=(Lib.cell_of_heap (heap_alloc_new w (.cells #[.int .i64 k,.int .i64 x.k,.int .i64 x.n,.string ⟨x.s.toArray⟩,.string ⟨nm.toArray⟩,.slice ao n ca] 29)) 4).trans rfl
 have y5:(w.alloc (.cells #[.int .i64 k,.int .i64 x.k,.int .i64 x.n,.string ⟨x.s.toArray⟩,.string ⟨nm.toArray⟩,.slice ao n ca] 29)).drew.cell? ⟨w.heap.size,5,none⟩=some (.slice ao n ca):=(Lib.cell_of_heap (heap_alloc_new w (.cells #[.int .i64 k,.int .i64 x.k,.int .i64 x.n,.string ⟨x.s.toArray⟩,.string ⟨nm.toArray⟩,.slice ao n ca] 29)) 5).trans rfl
 have yl:w.heap.size < (w.alloc (.cells #[.int .i64 k,.int .i64 x.k,.int .i64 x.n,.string ⟨x.s.toArray⟩,.string ⟨nm.toArray⟩,.slice ao n ca] 29)).drew.heap.size:=(Array.getElem?_eq_some_iff.1 (heap_alloc_new w (.cells #[.int .i64 k,.int .i64 x.k,.int .i64 x.n,.string ⟨x.s.toArray⟩,.string ⟨nm.toArray⟩,.slice ao n ca] 29))).1
 have yb:Below w.heap.size w (w.alloc (.cells #[.int .i64 k,.int .i64 x.k,.int .i64 x.n,.string ⟨x.s.toArray⟩,.string ⟨nm.toArray⟩,.slice ao n ca] 29)).drew:=b0.drew
 go_enter Tryz.func78,Tryz.ntmps78
 go_wp2_with fail
 refine wp_region_held_drew (S:=(fun w'=>w'.cell? ⟨w.heap.size,0,none⟩=some (.int .i64 k)∧w'.cell? ⟨w.heap.size,1,none⟩=some (.int .i64 x.k)∧w'.cell? ⟨w.heap.size,2,none⟩=some (.int .i64 x.n)∧w'.cell? ⟨w.heap.size,3,none⟩=some (.string ⟨x.s.toArray⟩)∧w'.cell? ⟨w.heap.size,4,none⟩=some (.string ⟨nm.toArray⟩)∧w'.cell? ⟨w.heap.size,5,none⟩=some (.slice ao n ca)∧Below w.heap.size w w'∧w.heap.size < w'.heap.size)) (by kernel_rfl) ⟨y0,y1,y2,y3,y4,y5,yb,yl⟩ (fun hHeld=>?_)
 refine yau 0 38 (v:=?_) (by simp only [List.getElem?_toArray,List.getElem?_cons_zero];rfl) rfl (by kernel_rfl) (by kernel_rfl) (by kernel_rfl) (fun _ _ _ h=>h) (Or.inl ⟨by rfl, ?_⟩) (by assumption) ?_
 rotate_left
 ·intro W hSw
  obtain ⟨i0,i1,i2,i3,i4,i5,-,-⟩:=hSw
  go_simp
  try with_reducible rfl
 simp only [List.setIfInBounds_toArray,List.set_cons_succ,List.set_cons_zero]
 refine yau 1 39 (v:=?_) (by simp only [List.getElem?_toArray,List.getElem?_cons_succ,List.getElem?_cons_zero];rfl) rfl (by kernel_rfl) (by kernel_rfl) (by kernel_rfl) (fun _ _ _ h=>h) (Or.inl ⟨by rfl, ?_⟩) (by assumption) ?_
 rotate_left
 ·intro W hSw
  obtain ⟨i0,i1,i2,i3,i4,i5,-,-⟩:=hSw
  go_simp
  try with_reducible rfl
 simp only [List.setIfInBounds_toArray,List.set_cons_succ,List.set_cons_zero]
 refine yau 2 40 (v:=?_) (by simp only [List.getElem?_toArray,List.getElem?_cons_succ,List.getElem?_cons_zero];rfl) rfl (by kernel_rfl) (by kernel_rfl) (by kernel_rfl) (fun _ _ _ h=>h) (Or.inl ⟨by rfl, ?_⟩) (by assumption) ?_
 rotate_left
 ·intro W hSw
  obtain ⟨i0,i1,i2,i3,i4,i5,-,-⟩:=hSw
  go_simp
  try with_reducible rfl
 simp only [List.setIfInBounds_toArray,List.set_cons_succ,List.set_cons_zero]
 refine yau 3 41 (v:=?_) (by simp only [List.getElem?_toArray,List.getElem?_cons_succ,List.getElem?_cons_zero];rfl) rfl (by kernel_rfl) (by kernel_rfl) (by kernel_rfl) (fun _ _ _ h=>h) (Or.inl ⟨by rfl, ?_⟩) (by assumption) ?_
 rotate_left
 ·intro W hSw
  obtain ⟨i0,i1,i2,i3,i4,i5,-,-⟩:=hSw
  go_simp
  try with_reducible rfl
 simp only [List.setIfInBounds_toArray,List.set_cons_succ,List.set_cons_zero]
 refine yau 4 42 (v:=?_) (by simp only [List.getElem?_toArray,List.getElem?_cons_succ,List.getElem?_cons_zero];rfl) rfl (by kernel_rfl) (by kernel_rfl) (by kernel_rfl) (fun _ _ _ h=>h) (Or.inl ⟨by rfl, ?_⟩) (by assumption) ?_
 rotate_left
 ·intro W hSw
  obtain ⟨i0,i1,i2,i3,i4,i5,-,-⟩:=hSw
  go_simp
  try with_reducible rfl
 simp only [List.setIfInBounds_toArray,List.set_cons_succ,List.set_cons_zero]
 refine yau 5 43 (v:=?_) (by simp only [List.getElem?_toArray,List.getElem?_cons_succ,List.getElem?_cons_zero];rfl) rfl (by kernel_rfl) (by kernel_rfl) (by kernel_rfl) (fun _ _ _ h=>h) (Or.inl ⟨by rfl, ?_⟩) (by assumption) ?_
 rotate_left
 ·intro W hSw
  obtain ⟨i0,i1,i2,i3,i4,i5,-,-⟩:=hSw
  go_simp
  try with_reducible rfl
 simp only [List.setIfInBounds_toArray,List.set_cons_succ,List.set_cons_zero]
 refine yau 6 44 (v:=?_) (by simp only [List.getElem?_toArray,List.getElem?_cons_succ,List.getElem?_cons_zero];rfl) rfl (by kernel_rfl) (by kernel_rfl) (by kernel_rfl) (fun _ _ _ h=>h) (Or.inl ⟨by rfl, ?_⟩) (by assumption) ?_
 rotate_left
 ·intro W hSw
  obtain ⟨i0,i1,i2,i3,i4,i5,-,-⟩:=hSw
  go_simp
  try with_reducible rfl
 simp only [List.setIfInBounds_toArray,List.set_cons_succ,List.set_cons_zero]
 refine yau 7 45 (v:=?_) (by simp only [List.getElem?_toArray,List.getElem?_cons_succ,List.getElem?_cons_zero];rfl) rfl (by kernel_rfl) (by kernel_rfl) (by kernel_rfl) (fun _ _ _ h=>h) (Or.inl ⟨by rfl, ?_⟩) (by assumption) ?_
 rotate_left
 ·intro W hSw
  obtain ⟨i0,i1,i2,i3,i4,i5,-,-⟩:=hSw
  go_simp
  try with_reducible rfl
 simp only [List.setIfInBounds_toArray,List.set_cons_succ,List.set_cons_zero]
 refine yau 8 46 (v:=?_) (by simp only [List.getElem?_toArray,List.getElem?_cons_succ,List.getElem?_cons_zero];rfl) rfl (by kernel_rfl) (by kernel_rfl) (by kernel_rfl) (fun _ _ _ h=>h) (Or.inl ⟨by rfl, ?_⟩) (by assumption) ?_
 rotate_left
 ·intro W hSw
  obtain ⟨i0,i1,i2,i3,i4,i5,-,-⟩:=hSw
  go_simp
  try with_reducible rfl
 simp only [List.setIfInBounds_toArray,List.set_cons_succ,List.set_cons_zero]
 refine yau 9 47 (v:=?_) (by simp only [List.getElem?_toArray,List.getElem?_cons_succ,List.getElem?_cons_zero];rfl) rfl (by kernel_rfl) (by kernel_rfl) (by kernel_rfl) (fun _ _ _ h=>h) (Or.inl ⟨by rfl, ?_⟩) (by assumption) ?_
 rotate_left
 ·intro W hSw
  obtain ⟨i0,i1,i2,i3,i4,i5,-,-⟩:=hSw
  go_simp
  try with_reducible rfl
 simp only [List.setIfInBounds_toArray,List.set_cons_succ,List.set_cons_zero]
 refine yau 10 48 (v:=?_) (by simp only [List.getElem?_toArray,List.getElem?_cons_succ,List.getElem?_cons_zero];rfl) rfl (by kernel_rfl) (by kernel_rfl) (by kernel_rfl) (fun _ _ _ h=>h) (Or.inl ⟨by rfl, ?_⟩) (by assumption) ?_
 rotate_left
 ·intro W hSw
  obtain ⟨i0,i1,i2,i3,i4,i5,-,-⟩:=hSw
  go_simp
  try with_reducible rfl
 simp only [List.setIfInBounds_toArray,List.set_cons_succ,List.set_cons_zero]
 refine yau 11 49 (v:=?_) (by simp only [List.getElem?_toArray,List.getElem?_cons_succ,List.getElem?_cons_zero];rfl) rfl (by kernel_rfl) (by kernel_rfl) (by kernel_rfl) (fun _ _ _ h=>h) (Or.inl ⟨by rfl, ?_⟩) (by assumption) ?_
 rotate_left
 ·intro W hSw
  obtain ⟨i0,i1,i2,i3,i4,i5,-,-⟩:=hSw
  go_simp
  try with_reducible rfl
 simp only [List.setIfInBounds_toArray,List.set_cons_succ,List.set_cons_zero]
 refine yau 12 50 (v:=?_) (by simp only [List.getElem?_toArray,List.getElem?_cons_succ,List.getElem?_cons_zero];rfl) rfl (by kernel_rfl) (by kernel_rfl) (by kernel_rfl) (fun _ _ _ h=>h) (Or.inl ⟨by rfl, ?_⟩) (by assumption) ?_
 rotate_left
 ·intro W hSw
  obtain ⟨i0,i1,i2,i3,i4,i5,-,-⟩:=hSw
  go_simp
  try with_reducible rfl
 simp only [List.setIfInBounds_toArray,List.set_cons_succ,List.set_cons_zero]
 refine yau 13 51 (v:=?_) (by simp only [List.getElem?_toArray,List.getElem?_cons_succ,List.getElem?_cons_zero];rfl) rfl (by kernel_rfl) (by kernel_rfl) (by kernel_rfl) (fun _ _ _ h=>h) (Or.inl ⟨by rfl, ?_⟩) (by assumption) ?_
 rotate_left
 ·intro W hSw
  obtain ⟨i0,i1,i2,i3,i4,i5,-,-⟩:=hSw
  go_simp
  try with_reducible rfl
 simp only [List.setIfInBounds_toArray,List.set_cons_succ,List.set_cons_zero]
 refine yau 14 52 (v:=?_) (by simp only [List.getElem?_toArray,List.getElem?_cons_succ,List.getElem?_cons_zero];rfl) rfl (by kernel_rfl) (by kernel_rfl) (by kernel_rfl) (fun _ _ _ h=>h) (Or.inl ⟨by rfl, ?_⟩) (by assumption) ?_
 rotate_left
 ·intro W hSw
  obtain ⟨i0,i1,i2,i3,i4,i5,-,-⟩:=hSw
  go_simp
  try with_reducible rfl
 simp only [List.setIfInBounds_toArray,List.set_cons_succ,List.set_cons_zero]
 refine yau 15 53 (v:=?_) (by simp only [List.getElem?_toArray,List.getElem?_cons_succ,List.getElem?_cons_zero];rfl) rfl (by kernel_rfl) (by kernel_rfl) (by kernel_rfl) (fun _ _ _ h=>h) (Or.inl ⟨by rfl, ?_⟩) (by assumption) ?_
 rotate_left
 ·intro W hSw
  obtain ⟨i0,i1,i2,i3,i4,i5,-,-⟩:=hSw
  go_simp
  try with_reducible rfl
 simp only [List.setIfInBounds_toArray,List.set_cons_succ,List.set_cons_zero]
 refine yau 16 54 (v:=?_) (by simp only [List.getElem?_toArray,List.getElem?_cons_succ,List.getElem?_cons_zero];rfl) rfl (by kernel_rfl) (by kernel_rfl) (by kernel_rfl) (fun _ _ _ h=>h) (Or.inl ⟨by rfl, ?_⟩) (by assumption) ?_
 rotate_left
 ·intro W hSw
  obtain ⟨i0,i1,i2,i3,i4,i5,-,-⟩:=hSw
  go_simp
  try with_reducible rfl
 simp only [List.setIfInBounds_toArray,List.set_cons_succ,List.set_cons_zero]
 refine yau 17 55 (v:=?_) (by simp only [List.getElem?_toArray,List.getElem?_cons_succ,List.getElem?_cons_zero];rfl) rfl (by kernel_rfl) (by kernel_rfl) (by kernel_rfl) (fun _ _ _ h=>h) (Or.inl ⟨by rfl, ?_⟩) (by assumption) ?_
 rotate_left
 ·intro W hSw
  obtain ⟨i0,i1,i2,i3,i4,i5,-,-⟩:=hSw
  go_simp
  try with_reducible rfl
 simp only [List.setIfInBounds_toArray,List.set_cons_succ,List.set_cons_zero]
 refine yau 18 56 (v:=?_) (by simp only [List.getElem?_toArray,List.getElem?_cons_succ,List.getElem?_cons_zero];rfl) rfl (by kernel_rfl) (by kernel_rfl) (by kernel_rfl) (fun _ _ _ h=>h) (Or.inl ⟨by rfl, ?_⟩) (by assumption) ?_
 rotate_left
 ·intro W hSw
  obtain ⟨i0,i1,i2,i3,i4,i5,-,-⟩:=hSw
  go_simp
  try with_reducible rfl
 simp only [List.setIfInBounds_toArray,List.set_cons_succ,List.set_cons_zero]
 refine yau 19 57 (v:=?_) (by simp only [List.getElem?_toArray,List.getElem?_cons_succ,List.getElem?_cons_zero];rfl) rfl (by kernel_rfl) (by kernel_rfl) (by kernel_rfl) (fun _ _ _ h=>h) (Or.inl ⟨by rfl, ?_⟩) (by assumption) ?_
 rotate_left
 ·intro W hSw
  obtain ⟨i0,i1,i2,i3,i4,i5,-,-⟩:=hSw
  go_simp
  try with_reducible rfl
 simp only [List.setIfInBounds_toArray,List.set_cons_succ,List.set_cons_zero]
 refine yau 20 58 (v:=?_) (by simp only [List.getElem?_toArray,List.getElem?_cons_succ,List.getElem?_cons_zero];rfl) rfl (by kernel_rfl) (by kernel_rfl) (by kernel_rfl) (fun _ _ _ h=>h) (Or.inl ⟨by rfl, ?_⟩) (by assumption) ?_
 rotate_left
 ·intro W hSw
  obtain ⟨i0,i1,i2,i3,i4,i5,-,-⟩:=hSw
  go_simp
  try with_reducible rfl
 simp only [List.setIfInBounds_toArray,List.set_cons_succ,List.set_cons_zero]
 refine wpAnyH_ready (rs:=[21]) (by kernel_rfl) (by simp) ?_
 refine AllReadyH.cons rfl (fun K hK=>?_) AllReadyH.nil
 go_simp
 go_wp2_with (first|(go_at_call 128;refine (ha _).mono ?_;rintro e w1 ⟨rfl,hb⟩))
 refine hK.out _ _ (yqs hHeld hb) (fun hHeld2=>?_)
 clear hK K hHeld
 refine yau 22 60 (v:=?_) (by simp only [List.getElem?_toArray,List.getElem?_cons_succ,List.getElem?_cons_zero];rfl) rfl (by kernel_rfl) (by kernel_rfl) (by kernel_rfl) (fun _ _ _ h=>h) (Or.inl ⟨by rfl, ?_⟩) (by assumption) ?_
 rotate_left
 ·intro W hSw
  obtain ⟨i0,i1,i2,i3,i4,i5,-,-⟩:=hSw
  go_simp
  try with_reducible rfl
 simp only [List.setIfInBounds_toArray,List.set_cons_succ,List.set_cons_zero]
 refine yau 23 61 (v:=?_) (by simp only [List.getElem?_toArray,List.getElem?_cons_succ,List.getElem?_cons_zero];rfl) rfl (by kernel_rfl) (by kernel_rfl) (by kernel_rfl) (fun _ _ _ h=>h) (Or.inl ⟨by rfl, ?_⟩) (by assumption) ?_
 rotate_left
 ·intro W hSw
  obtain ⟨i0,i1,i2,i3,i4,i5,-,-⟩:=hSw
  go_simp
  try with_reducible rfl
 simp only [List.setIfInBounds_toArray,List.set_cons_succ,List.set_cons_zero]
 refine yau 24 62 (v:=?_) (by simp only [List.getElem?_toArray,List.getElem?_cons_succ,List.getElem?_cons_zero];rfl) rfl (by kernel_rfl) (by kernel_rfl) (by kernel_rfl) (fun _ _ _ h=>h) (Or.inl ⟨by rfl, ?_⟩) (by assumption) ?_
 rotate_left
 ·intro W hSw
  obtain ⟨i0,i1,i2,i3,i4,i5,-,-⟩:=hSw
  go_simp
  try with_reducible rfl
 simp only [List.setIfInBounds_toArray,List.set_cons_succ,List.set_cons_zero]
 refine yau 25 63 (v:=undef) (by simp only [List.getElem?_toArray,List.getElem?_cons_succ,List.getElem?_cons_zero];rfl) rfl (by kernel_rfl) (by kernel_rfl) (by kernel_rfl) (fun _ _ _ h=>h) (Or.inr ⟨by rfl,rfl⟩) (by assumption) ?_
 simp only [List.setIfInBounds_toArray,List.set_cons_succ,List.set_cons_zero]
 refine yau 26 64 (v:=undef) (by simp only [List.getElem?_toArray,List.getElem?_cons_succ,List.getElem?_cons_zero];rfl) rfl (by kernel_rfl) (by kernel_rfl) (by kernel_rfl) (fun _ _ _ h=>h) (Or.inr ⟨by rfl,rfl⟩) (by assumption) ?_
 simp only [List.setIfInBounds_toArray,List.set_cons_succ,List.set_cons_zero]
 refine yau 27 65 (v:=undef) (by simp only [List.getElem?_toArray,List.getElem?_cons_succ,List.getElem?_cons_zero];rfl) rfl (by kernel_rfl) (by kernel_rfl) (by kernel_rfl) (fun _ _ _ h=>h) (Or.inr ⟨by rfl,rfl⟩) (by assumption) ?_
 simp only [List.setIfInBounds_toArray,List.set_cons_succ,List.set_cons_zero]
 refine yau 28 66 (v:=?_) (by simp only [List.getElem?_toArray,List.getElem?_cons_succ,List.getElem?_cons_zero];rfl) rfl (by kernel_rfl) (by kernel_rfl) (by kernel_rfl) (fun _ _ _ h=>h) (Or.inl ⟨by rfl, ?_⟩) (by assumption) ?_
 rotate_left
 ·intro W hSw
  obtain ⟨i0,i1,i2,i3,i4,i5,-,-⟩:=hSw
  go_simp
  try with_reducible rfl
 simp only [List.setIfInBounds_toArray,List.set_cons_succ,List.set_cons_zero]
 refine yau 29 2 (v:=?_) (by simp only [List.getElem?_toArray,List.getElem?_cons_succ,List.getElem?_cons_zero];rfl) rfl (by kernel_rfl) (by kernel_rfl) (by kernel_rfl) (fun _ _ _ h=>h) (Or.inl ⟨by rfl, ?_⟩) (by assumption) ?_
 rotate_left
 ·intro W hSw
  obtain ⟨i0,i1,i2,i3,i4,i5,-,-⟩:=hSw
  go_simp
  try with_reducible rfl
 simp only [List.setIfInBounds_toArray,List.set_cons_succ,List.set_cons_zero]
 refine wpAnyH_done (by kernel_rfl) ?_ _
 go_wp2
 go_ret
 exact ⟨rfl,hHeld2.2.2.2.2.2.2.1⟩
theorem ynW (k:Int) (x:Vl) (nm:List UInt8) (ao:Option Addr) (n ca:Nat) (w:World) (h1:(k == 1)=false) (h2:(k == 2)=false) (hv:ycX x.k x.n ⟨x.s.toArray⟩ 0 0 ⟨#[]⟩=true) (hn:nm.isEmpty=true) (h0:0 < n) (A:Bool)
  (ha:∀ W,Calls Tryz.prog 128 #[.int .i64 k] W fun e w'=>e=.returned (.int .i64 (n:Int))∧Below W.heap.size W w')
  (hc:∀ W,Below w.heap.size w W→Calls Tryz.prog 129 #[.slice ao n ca,.func (.func 78) #[] #[]] W fun e w'=>e=.returned (.bool A)∧Below W.heap.size W w') :
  Calls Tryz.prog 78 #[.agg #[.int .i64 k,.int .i64 x.k,.int .i64 x.n,.string ⟨x.s.toArray⟩,.string ⟨nm.toArray⟩,.slice ao n ca]] w fun e w'=>e=.returned (.bool A)∧Below w.heap.size w w':=by
 have b0:=(Below.refl w.heap.size w).alloc (Nat.le_refl _) (.cells #[.int .i64 k,.int .i64 x.k,.int .i64 x.n,.string ⟨x.s.toArray⟩,.string ⟨nm.toArray⟩,.slice ao n ca] 29)
 have hq:=yi6
 have h0':(0:Int) < (n:Int):=by omega
 have hd0:decide ((0:Int) < (n:Int))=true:=by simpa using h0
 have hd1:decide (0 < n)=true:=by simpa using h0
 have y0:(w.alloc (.cells #[.int .i64 k,.int .i64 x.k,.int .i64 x.n,.string ⟨x.s.toArray⟩,.string ⟨nm.toArray⟩,.slice ao n ca] 29)).drew.cell? ⟨w.heap.size,0,none⟩=some (.int .i64 k):=(Lib.cell_of_heap (heap_alloc_new w (.cells #[.int .i64 k,.int .i64 x.k,.int .i64 x.n,.string ⟨x.s.toArray⟩,.string ⟨nm.toArray⟩,.slice ao n ca] 29)) 0).trans rfl
 have y1:(w.alloc (.cells #[.int .i64 k,.int .i64 x.k,.int .i64 x.n,.string ⟨x.s.toArray⟩,.string ⟨nm.toArray⟩,.slice ao n ca] 29)).drew.cell? ⟨w.heap.size,1,none⟩=some (.int .i64 x.k):=(Lib.cell_of_heap (heap_alloc_new w (.cells #[.int .i64 k,.int .i64 x.k,.int .i64 x.n,.string ⟨x.s.toArray⟩,.string ⟨nm.toArray⟩,.slice ao n ca] 29)) 1).trans rfl
 have y2:(w.alloc (.cells #[.int .i64 k,.int .i64 x.k,.int .i64 x.n,.string ⟨x.s.toArray⟩,.string ⟨nm.toArray⟩,.slice ao n ca] 29)).drew.cell? ⟨w.heap.size,2,none⟩=some (.int .i64 x.n):=(Lib.cell_of_heap (heap_alloc_new w (.cells #[.int .i64 k,.int .i64 x.k,.int .i64 x.n,.string ⟨x.s.toArray⟩,.string ⟨nm.toArray⟩,.slice ao n ca] 29)) 2).trans rfl
 have y3:(w.alloc (.cells #[.int .i64 k,.int .i64 x.k,.int .i64 x.n,.string ⟨x.s.toArray⟩,.string ⟨nm.toArray⟩,.slice ao n ca] 29)).drew.cell? ⟨w.heap.size,3,none⟩=some (.string ⟨x.s.toArray⟩):=(Lib.cell_of_heap (heap_alloc_new w (.cells #[.int .i64 k,.int .i64 x.k,.int .i64 x.n,.string ⟨x.s.toArray⟩,.string ⟨nm.toArray⟩,.slice ao n ca] 29)) 3).trans rfl
 have y4:(w.alloc (.cells #[.int .i64 k,.int .i64 x.k,.int .i64 x.n,.string ⟨x.s.toArray⟩,.string ⟨nm.toArray⟩,.slice ao n ca] 29)).drew.cell? ⟨w.heap.size,4,none⟩=some (.string ⟨nm.toArray⟩):=(Lib.cell_of_heap (heap_alloc_new w (.cells #[.int .i64 k,.int .i64 x.k,.int .i64 x.n,.string ⟨x.s.toArray⟩,.string ⟨nm.toArray⟩,.slice ao n ca] 29)) 4).trans rfl
 have y5:(w.alloc (.cells #[.int .i64 k,.int .i64 x.k,.int .i64 x.n,.string ⟨x.s.toArray⟩,.string ⟨nm.toArray⟩,.slice ao n ca] 29)).drew.cell? ⟨w.heap.size,5,none⟩=some (.slice ao n ca):=(Lib.cell_of_heap (heap_alloc_new w (.cells #[.int .i64 k,.int .i64 x.k,.int .i64 x.n,.string ⟨x.s.toArray⟩,.string ⟨nm.toArray⟩,.slice ao n ca] 29)) 5).trans rfl
 have yl:w.heap.size < (w.alloc (.cells #[.int .i64 k,.int .i64 x.k,.int .i64 x.n,.string ⟨x.s.toArray⟩,.string ⟨nm.toArray⟩,.slice ao n ca] 29)).drew.heap.size:=(Array.getElem?_eq_some_iff.1 (heap_alloc_new w (.cells #[.int .i64 k,.int .i64 x.k,.int .i64 x.n,.string ⟨x.s.toArray⟩,.string ⟨nm.toArray⟩,.slice ao n ca] 29))).1
 have yb:Below w.heap.size w (w.alloc (.cells #[.int .i64 k,.int .i64 x.k,.int .i64 x.n,.string ⟨x.s.toArray⟩,.string ⟨nm.toArray⟩,.slice ao n ca] 29)).drew:=b0.drew
 go_enter Tryz.func78,Tryz.ntmps78
 go_wp2_with fail
 refine wp_region_held_drew (S:=(fun w'=>w'.cell? ⟨w.heap.size,0,none⟩=some (.int .i64 k)∧w'.cell? ⟨w.heap.size,1,none⟩=some (.int .i64 x.k)∧w'.cell? ⟨w.heap.size,2,none⟩=some (.int .i64 x.n)∧w'.cell? ⟨w.heap.size,3,none⟩=some (.string ⟨x.s.toArray⟩)∧w'.cell? ⟨w.heap.size,4,none⟩=some (.string ⟨nm.toArray⟩)∧w'.cell? ⟨w.heap.size,5,none⟩=some (.slice ao n ca)∧Below w.heap.size w w'∧w.heap.size < w'.heap.size)) (by kernel_rfl) ⟨y0,y1,y2,y3,y4,y5,yb,yl⟩ (fun hHeld=>?_)
 refine yau 0 38 (v:=?_) (by simp only [List.getElem?_toArray,List.getElem?_cons_zero];rfl) rfl (by kernel_rfl) (by kernel_rfl) (by kernel_rfl) (fun _ _ _ h=>h) (Or.inl ⟨by rfl, ?_⟩) (by assumption) ?_
 rotate_left
 ·intro W hSw
  obtain ⟨i0,i1,i2,i3,i4,i5,-,-⟩:=hSw
  go_simp
  try with_reducible rfl
 simp only [List.setIfInBounds_toArray,List.set_cons_succ,List.set_cons_zero]
 refine yau 1 39 (v:=?_) (by simp only [List.getElem?_toArray,List.getElem?_cons_succ,List.getElem?_cons_zero];rfl) rfl (by kernel_rfl) (by kernel_rfl) (by kernel_rfl) (fun _ _ _ h=>h) (Or.inl ⟨by rfl, ?_⟩) (by assumption) ?_
 rotate_left
 ·intro W hSw
  obtain ⟨i0,i1,i2,i3,i4,i5,-,-⟩:=hSw
  go_simp
  try with_reducible rfl
 simp only [List.setIfInBounds_toArray,List.set_cons_succ,List.set_cons_zero]
 refine yau 2 40 (v:=?_) (by simp only [List.getElem?_toArray,List.getElem?_cons_succ,List.getElem?_cons_zero];rfl) rfl (by kernel_rfl) (by kernel_rfl) (by kernel_rfl) (fun _ _ _ h=>h) (Or.inl ⟨by rfl, ?_⟩) (by assumption) ?_
 rotate_left
 ·intro W hSw
  obtain ⟨i0,i1,i2,i3,i4,i5,-,-⟩:=hSw
  go_simp
  try with_reducible rfl
 simp only [List.setIfInBounds_toArray,List.set_cons_succ,List.set_cons_zero]
 refine yau 3 41 (v:=?_) (by simp only [List.getElem?_toArray,List.getElem?_cons_succ,List.getElem?_cons_zero];rfl) rfl (by kernel_rfl) (by kernel_rfl) (by kernel_rfl) (fun _ _ _ h=>h) (Or.inl ⟨by rfl, ?_⟩) (by assumption) ?_
 rotate_left
 ·intro W hSw
  obtain ⟨i0,i1,i2,i3,i4,i5,-,-⟩:=hSw
  go_simp
  try with_reducible rfl
 simp only [List.setIfInBounds_toArray,List.set_cons_succ,List.set_cons_zero]
 refine yau 4 42 (v:=?_) (by simp only [List.getElem?_toArray,List.getElem?_cons_succ,List.getElem?_cons_zero];rfl) rfl (by kernel_rfl) (by kernel_rfl) (by kernel_rfl) (fun _ _ _ h=>h) (Or.inl ⟨by rfl, ?_⟩) (by assumption) ?_
 rotate_left
 ·intro W hSw
  obtain ⟨i0,i1,i2,i3,i4,i5,-,-⟩:=hSw
  go_simp
  try with_reducible rfl
 simp only [List.setIfInBounds_toArray,List.set_cons_succ,List.set_cons_zero]
 refine yau 5 43 (v:=?_) (by simp only [List.getElem?_toArray,List.getElem?_cons_succ,List.getElem?_cons_zero];rfl) rfl (by kernel_rfl) (by kernel_rfl) (by kernel_rfl) (fun _ _ _ h=>h) (Or.inl ⟨by rfl, ?_⟩) (by assumption) ?_
 rotate_left
 ·intro W hSw
  obtain ⟨i0,i1,i2,i3,i4,i5,-,-⟩:=hSw
  go_simp
  try with_reducible rfl
 simp only [List.setIfInBounds_toArray,List.set_cons_succ,List.set_cons_zero]
 refine yau 6 44 (v:=?_) (by simp only [List.getElem?_toArray,List.getElem?_cons_succ,List.getElem?_cons_zero];rfl) rfl (by kernel_rfl) (by kernel_rfl) (by kernel_rfl) (fun _ _ _ h=>h) (Or.inl ⟨by rfl, ?_⟩) (by assumption) ?_
 rotate_left
 ·intro W hSw
  obtain ⟨i0,i1,i2,i3,i4,i5,-,-⟩:=hSw
  go_simp
  try with_reducible rfl
 simp only [List.setIfInBounds_toArray,List.set_cons_succ,List.set_cons_zero]
 refine yau 7 45 (v:=?_) (by simp only [List.getElem?_toArray,List.getElem?_cons_succ,List.getElem?_cons_zero];rfl) rfl (by kernel_rfl) (by kernel_rfl) (by kernel_rfl) (fun _ _ _ h=>h) (Or.inl ⟨by rfl, ?_⟩) (by assumption) ?_
 rotate_left
 ·intro W hSw
  obtain ⟨i0,i1,i2,i3,i4,i5,-,-⟩:=hSw
  go_simp
  try with_reducible rfl
 simp only [List.setIfInBounds_toArray,List.set_cons_succ,List.set_cons_zero]
 refine yau 8 46 (v:=?_) (by simp only [List.getElem?_toArray,List.getElem?_cons_succ,List.getElem?_cons_zero];rfl) rfl (by kernel_rfl) (by kernel_rfl) (by kernel_rfl) (fun _ _ _ h=>h) (Or.inl ⟨by rfl, ?_⟩) (by assumption) ?_
 rotate_left
 ·intro W hSw
  obtain ⟨i0,i1,i2,i3,i4,i5,-,-⟩:=hSw
  go_simp
  try with_reducible rfl
 simp only [List.setIfInBounds_toArray,List.set_cons_succ,List.set_cons_zero]
 refine yau 9 47 (v:=?_) (by simp only [List.getElem?_toArray,List.getElem?_cons_succ,List.getElem?_cons_zero];rfl) rfl (by kernel_rfl) (by kernel_rfl) (by kernel_rfl) (fun _ _ _ h=>h) (Or.inl ⟨by rfl, ?_⟩) (by assumption) ?_
 rotate_left
 ·intro W hSw
  obtain ⟨i0,i1,i2,i3,i4,i5,-,-⟩:=hSw
  go_simp
  try with_reducible rfl
 simp only [List.setIfInBounds_toArray,List.set_cons_succ,List.set_cons_zero]
 refine yau 10 48 (v:=?_) (by simp only [List.getElem?_toArray,List.getElem?_cons_succ,List.getElem?_cons_zero];rfl) rfl (by kernel_rfl) (by kernel_rfl) (by kernel_rfl) (fun _ _ _ h=>h) (Or.inl ⟨by rfl, ?_⟩) (by assumption) ?_
 rotate_left
 ·intro W hSw
  obtain ⟨i0,i1,i2,i3,i4,i5,-,-⟩:=hSw
  go_simp
  try with_reducible rfl
 simp only [List.setIfInBounds_toArray,List.set_cons_succ,List.set_cons_zero]
 refine yau 11 49 (v:=?_) (by simp only [List.getElem?_toArray,List.getElem?_cons_succ,List.getElem?_cons_zero];rfl) rfl (by kernel_rfl) (by kernel_rfl) (by kernel_rfl) (fun _ _ _ h=>h) (Or.inl ⟨by rfl, ?_⟩) (by assumption) ?_
 rotate_left
 ·intro W hSw
  obtain ⟨i0,i1,i2,i3,i4,i5,-,-⟩:=hSw
  go_simp
  try with_reducible rfl
 simp only [List.setIfInBounds_toArray,List.set_cons_succ,List.set_cons_zero]
 refine yau 12 50 (v:=?_) (by simp only [List.getElem?_toArray,List.getElem?_cons_succ,List.getElem?_cons_zero];rfl) rfl (by kernel_rfl) (by kernel_rfl) (by kernel_rfl) (fun _ _ _ h=>h) (Or.inl ⟨by rfl, ?_⟩) (by assumption) ?_
 rotate_left
 ·intro W hSw
  obtain ⟨i0,i1,i2,i3,i4,i5,-,-⟩:=hSw
  go_simp
  try with_reducible rfl
 simp only [List.setIfInBounds_toArray,List.set_cons_succ,List.set_cons_zero]
 refine yau 13 51 (v:=?_) (by simp only [List.getElem?_toArray,List.getElem?_cons_succ,List.getElem?_cons_zero];rfl) rfl (by kernel_rfl) (by kernel_rfl) (by kernel_rfl) (fun _ _ _ h=>h) (Or.inl ⟨by rfl, ?_⟩) (by assumption) ?_
 rotate_left
 ·intro W hSw
  obtain ⟨i0,i1,i2,i3,i4,i5,-,-⟩:=hSw
  go_simp
  try with_reducible rfl
 simp only [List.setIfInBounds_toArray,List.set_cons_succ,List.set_cons_zero]
 refine yau 14 52 (v:=?_) (by simp only [List.getElem?_toArray,List.getElem?_cons_succ,List.getElem?_cons_zero];rfl) rfl (by kernel_rfl) (by kernel_rfl) (by kernel_rfl) (fun _ _ _ h=>h) (Or.inl ⟨by rfl, ?_⟩) (by assumption) ?_
 rotate_left
 ·intro W hSw
  obtain ⟨i0,i1,i2,i3,i4,i5,-,-⟩:=hSw
  go_simp
  try with_reducible rfl
 simp only [List.setIfInBounds_toArray,List.set_cons_succ,List.set_cons_zero]
 refine yau 15 53 (v:=?_) (by simp only [List.getElem?_toArray,List.getElem?_cons_succ,List.getElem?_cons_zero];rfl) rfl (by kernel_rfl) (by kernel_rfl) (by kernel_rfl) (fun _ _ _ h=>h) (Or.inl ⟨by rfl, ?_⟩) (by assumption) ?_
 rotate_left
 ·intro W hSw
  obtain ⟨i0,i1,i2,i3,i4,i5,-,-⟩:=hSw
  go_simp
  try with_reducible rfl
 simp only [List.setIfInBounds_toArray,List.set_cons_succ,List.set_cons_zero]
 refine yau 16 54 (v:=?_) (by simp only [List.getElem?_toArray,List.getElem?_cons_succ,List.getElem?_cons_zero];rfl) rfl (by kernel_rfl) (by kernel_rfl) (by kernel_rfl) (fun _ _ _ h=>h) (Or.inl ⟨by rfl, ?_⟩) (by assumption) ?_
 rotate_left
 ·intro W hSw
  obtain ⟨i0,i1,i2,i3,i4,i5,-,-⟩:=hSw
  go_simp
  try with_reducible rfl
 simp only [List.setIfInBounds_toArray,List.set_cons_succ,List.set_cons_zero]
 refine yau 17 55 (v:=?_) (by simp only [List.getElem?_toArray,List.getElem?_cons_succ,List.getElem?_cons_zero];rfl) rfl (by kernel_rfl) (by kernel_rfl) (by kernel_rfl) (fun _ _ _ h=>h) (Or.inl ⟨by rfl, ?_⟩) (by assumption) ?_
 rotate_left
 ·intro W hSw
  obtain ⟨i0,i1,i2,i3,i4,i5,-,-⟩:=hSw
  go_simp
  try with_reducible rfl
 simp only [List.setIfInBounds_toArray,List.set_cons_succ,List.set_cons_zero]
 refine yau 18 56 (v:=?_) (by simp only [List.getElem?_toArray,List.getElem?_cons_succ,List.getElem?_cons_zero];rfl) rfl (by kernel_rfl) (by kernel_rfl) (by kernel_rfl) (fun _ _ _ h=>h) (Or.inl ⟨by rfl, ?_⟩) (by assumption) ?_
 rotate_left
 ·intro W hSw
  obtain ⟨i0,i1,i2,i3,i4,i5,-,-⟩:=hSw
  go_simp
  try with_reducible rfl
 simp only [List.setIfInBounds_toArray,List.set_cons_succ,List.set_cons_zero]
 refine yau 19 57 (v:=?_) (by simp only [List.getElem?_toArray,List.getElem?_cons_succ,List.getElem?_cons_zero];rfl) rfl (by kernel_rfl) (by kernel_rfl) (by kernel_rfl) (fun _ _ _ h=>h) (Or.inl ⟨by rfl, ?_⟩) (by assumption) ?_
 rotate_left
 ·intro W hSw
  obtain ⟨i0,i1,i2,i3,i4,i5,-,-⟩:=hSw
  go_simp
  try with_reducible rfl
 simp only [List.setIfInBounds_toArray,List.set_cons_succ,List.set_cons_zero]
 refine yau 20 58 (v:=?_) (by simp only [List.getElem?_toArray,List.getElem?_cons_succ,List.getElem?_cons_zero];rfl) rfl (by kernel_rfl) (by kernel_rfl) (by kernel_rfl) (fun _ _ _ h=>h) (Or.inl ⟨by rfl, ?_⟩) (by assumption) ?_
 rotate_left
 ·intro W hSw
  obtain ⟨i0,i1,i2,i3,i4,i5,-,-⟩:=hSw
  go_simp
  try with_reducible rfl
 simp only [List.setIfInBounds_toArray,List.set_cons_succ,List.set_cons_zero]
 refine wpAnyH_ready (rs:=[21]) (by kernel_rfl) (by simp) ?_
 refine AllReadyH.cons rfl (fun K hK=>?_) AllReadyH.nil
 go_simp
 go_wp2_with (first|(go_at_call 128;refine (ha _).mono ?_;rintro e w1 ⟨rfl,hb⟩))
 refine hK.out _ _ (yqs hHeld hb) (fun hHeld2=>?_)
 clear hK K hHeld hb
 refine yau 22 60 (v:=?_) (by simp only [List.getElem?_toArray,List.getElem?_cons_succ,List.getElem?_cons_zero];rfl) rfl (by kernel_rfl) (by kernel_rfl) (by kernel_rfl) (fun _ _ _ h=>h) (Or.inl ⟨by rfl, ?_⟩) (by assumption) ?_
 rotate_left
 ·intro W hSw
  obtain ⟨i0,i1,i2,i3,i4,i5,-,-⟩:=hSw
  go_simp
  try with_reducible rfl
 simp only [List.setIfInBounds_toArray,List.set_cons_succ,List.set_cons_zero]
 refine yau 23 61 (v:=?_) (by simp only [List.getElem?_toArray,List.getElem?_cons_succ,List.getElem?_cons_zero];rfl) rfl (by kernel_rfl) (by kernel_rfl) (by kernel_rfl) (fun _ _ _ h=>h) (Or.inl ⟨by rfl, ?_⟩) (by assumption) ?_
 rotate_left
 ·intro W hSw
  obtain ⟨i0,i1,i2,i3,i4,i5,-,-⟩:=hSw
  go_simp
  try with_reducible rfl
 simp only [List.setIfInBounds_toArray,List.set_cons_succ,List.set_cons_zero]
 refine yau 24 62 (v:=?_) (by simp only [List.getElem?_toArray,List.getElem?_cons_succ,List.getElem?_cons_zero];rfl) rfl (by kernel_rfl) (by kernel_rfl) (by kernel_rfl) (fun _ _ _ h=>h) (Or.inl ⟨by rfl, ?_⟩) (by assumption) ?_
 rotate_left
 ·intro W hSw
  obtain ⟨i0,i1,i2,i3,i4,i5,-,-⟩:=hSw
  go_simp
  try with_reducible rfl
 simp only [List.setIfInBounds_toArray,List.set_cons_succ,List.set_cons_zero]
 refine yau 25 63 (v:=?_) (by simp only [List.getElem?_toArray,List.getElem?_cons_succ,List.getElem?_cons_zero];rfl) rfl (by kernel_rfl) (by kernel_rfl) (by kernel_rfl) (fun _ _ _ h=>h) (Or.inl ⟨by rfl, ?_⟩) (by assumption) ?_
 rotate_left
 ·intro W hSw
  obtain ⟨i0,i1,i2,i3,i4,i5,-,-⟩:=hSw
  go_simp
  try with_reducible rfl
 simp only [List.setIfInBounds_toArray,List.set_cons_succ,List.set_cons_zero]
 refine yau 26 64 (v:=?_) (by simp only [List.getElem?_toArray,List.getElem?_cons_succ,List.getElem?_cons_zero];rfl) rfl (by kernel_rfl) (by kernel_rfl) (by kernel_rfl) (fun _ _ _ h=>h) (Or.inl ⟨by rfl, ?_⟩) (by assumption) ?_
 rotate_left
 ·intro W hSw
  obtain ⟨i0,i1,i2,i3,i4,i5,-,-⟩:=hSw
  go_simp
  try with_reducible rfl
 simp only [List.setIfInBounds_toArray,List.set_cons_succ,List.set_cons_zero]
 refine wpAnyH_ready (rs:=[27]) (by kernel_rfl) (by simp) ?_
 refine AllReadyH.cons rfl (fun K hK=>?_) AllReadyH.nil
 go_simp
 go_wp2_with (first|(go_at_call 129;refine (hc _ hHeld2.2.2.2.2.2.2.1).mono ?_;rintro e w2 ⟨rfl,hb⟩))
 refine hK.out _ _ (yqs hHeld2 hb) (fun hHeld3=>?_)
 clear hK K hHeld2 hb
 refine yau 28 66 (v:=?_) (by simp only [List.getElem?_toArray,List.getElem?_cons_succ,List.getElem?_cons_zero];rfl) rfl (by kernel_rfl) (by kernel_rfl) (by kernel_rfl) (fun _ _ _ h=>h) (Or.inl ⟨by rfl, ?_⟩) (by assumption) ?_
 rotate_left
 ·intro W hSw
  obtain ⟨i0,i1,i2,i3,i4,i5,-,-⟩:=hSw
  go_simp
  try with_reducible rfl
 simp only [List.setIfInBounds_toArray,List.set_cons_succ,List.set_cons_zero]
 refine yau 29 2 (v:=?_) (by simp only [List.getElem?_toArray,List.getElem?_cons_succ,List.getElem?_cons_zero];rfl) rfl (by kernel_rfl) (by kernel_rfl) (by kernel_rfl) (fun _ _ _ h=>h) (Or.inl ⟨by rfl, ?_⟩) (by assumption) ?_
 rotate_left
 ·intro W hSw
  obtain ⟨i0,i1,i2,i3,i4,i5,-,-⟩:=hSw
  go_simp
  try with_reducible rfl
 simp only [List.setIfInBounds_toArray,List.set_cons_succ,List.set_cons_zero]
 refine wpAnyH_done (by kernel_rfl) ?_ _
 go_wp2
 go_ret
 exact ⟨rfl,hHeld3.2.2.2.2.2.2.1⟩
mutual
def yb6:Ex→Bool
 | .mk k v nm args =>
  if k=1 then ybJ v&&decide (nm=[])&&decide (args.length=0)
  else if k=2 then ybu v&&yan nm&&decide (args.length=0)
  else ybu v&&decide (nm=[])&&decide (0 < args.length)&&decide (args.length=ydS k)&&yd7 args
def yd7:List Ex→Bool
 | []=>true
 | x::xs=>yb6 x&&yd7 xs
end
theorem yjP:∀ l:List Ex,yd7 l=l.all yb6:=by
 intro l
 induction l with
 | nil=>rw [yd7];rfl
 | cons x xs ih=>rw [yd7,ih];rfl
inductive Fit:Ex→Prop where
 | mk (k:Int) (v:Vl) (nm:List UInt8) (args:List Ex) (hv:v.s.length≤140737488355328) (hn:nm.length≤140737488355328) (ha:args.length*80≤140737488351232) (h:∀ y ∈ args,Fit y):Fit (.mk k v nm args)
theorem yfn {EP:Prop} {B:Nat} {w0:World} {u:Value} {x:Ex} (h:ExAt B w0 u x):Fit x→∀ W:World,Below w0.heap.size w0 W→LaidIf EP W →
  Calls Tryz.prog 78 #[u] W fun e w'=>e=.returned (.bool (yb6 x))∧Below W.heap.size W w':=by
 induction h with
 | nil k v nm ao cap _ =>
  intro hf W hb hl
  cases hf with
  | mk _ _ _ _ hv hn ha hh =>
  rw [yb6,exV]
  by_cases h1:k=1
  ·rw [if_pos h1]
   exact yiq k v nm ao 0 cap W h1 hv
  rw [if_neg h1]
  by_cases h2:k=2
  ·rw [if_pos h2]
   exact yir k v nm ao 0 cap W h2 hn hl
  rw [if_neg h2]
  have:=yfR k v nm ao 0 cap W (by simpa using h1) (by simpa using h2) _ _ rfl rfl (.inr (.inr rfl))
  simpa using this
 | args k v nm b off cap xs us hx hB hsz hc h ih =>
  intro hf W hb hl
  cases hf with
  | mk _ _ _ _ hv hn ha hh =>
  have hpos:0 < xs.length:=List.length_pos_iff.2 hx
  rw [yb6,exV]
  by_cases h1:k=1
  ·rw [if_pos h1]
   exact yiq k v nm _ xs.length cap W h1 hv
  rw [if_neg h1]
  by_cases h2:k=2
  ·rw [if_pos h2]
   exact yir k v nm _ xs.length cap W h2 hn hl
  rw [if_neg h2]
  have q1:(k == 1)=false:=by simpa using h1
  have q2:(k == 2)=false:=by simpa using h2
  have hs:=yqR v
  have hne:nm.isEmpty=decide (nm=[]):=by cases nm <;> simp
  cases hN:ybu v
  ·rw [hN] at hs
   have:=yfR k v nm (some ⟨b,off,none⟩) xs.length cap W q1 q2 false _ hs rfl (.inl rfl)
   simpa using this
  rw [hN] at hs
  by_cases hm:nm=[]
  ·have hne':nm.isEmpty=true:=by rw [hne];simp [hm]
   by_cases hr:xs.length=ydS k
   ·have hall:∀ W',Below W.heap.size W W'→Calls Tryz.prog 129 #[.slice (some ⟨b,off,none⟩) xs.length cap,.func (.func 78) #[] #[]] W' fun e w'=>e=.returned (.bool (xs.all yb6))∧Below W'.heap.size W' w':=by
     intro W' hW'
     have hb':Below w0.heap.size w0 W':=hb.trans (hW'.mono hb.size)
     have hform:∀ i:Nat,∃ p:Option Addr×Nat×Nat,∀ y,xs[i]?=some y→us i=exV y.k y.v y.nm (.slice p.1 p.2.1 p.2.2):=by
      intro i
      cases hi:xs[i]? with
      | none=>exact ⟨(none,0,0),fun y hy=>by cases hy⟩
      | some z =>
       obtain ⟨k',v',nm',ao,n,ca,e⟩:=(h i z hi).form
       have hp:=ExAt.parts (e ▸ h i z hi)
       refine ⟨(ao,n,ca),fun y hy=>?_⟩
       cases hy
       rw [e,hp.1,hp.2.1,hp.2.2]
     have hf:=fun i=>Classical.choose_spec (hform i)
     refine ypl (fun i=>(Classical.choose (hform i)).1) (fun i=>(Classical.choose (hform i)).2.1) (fun i=>(Classical.choose (hform i)).2.2) yb6 b off cap xs W' (Nat.lt_of_lt_of_le hsz hb'.size) (by omega) ?_ ?_
     ·intro i y hy
      obtain ⟨k',v',nm',a',e,c0,c1,c2,c3,c4,c5⟩:=hc i (List.getElem?_eq_some_iff.1 hy).1
      have e2:=e.symm.trans (hf i y hy)
      simp only [exV,Value.agg.injEq,Array.mk.injEq,List.cons.injEq,and_true] at e2
      obtain ⟨r0,r1,r2,r3,r4,r5⟩:=e2
      have cl:∀ o,W'.cell? ⟨b,o,none⟩=w0.cell? ⟨b,o,none⟩:=fun o=>hb'.cell (p:=⟨b,o,none⟩) hsz
      rw [Nat.mul_comm i 6]
      exact ⟨(cl _).trans (c0.trans (congrArg some r0)),(cl _).trans (c1.trans (congrArg some r1)),(cl _).trans (c2.trans (congrArg some r2)),(cl _).trans (c3.trans (congrArg some r3)),(cl _).trans (c4.trans (congrArg some r4)),(cl _).trans (c5.trans (congrArg some r5))⟩
     ·intro i y hy W2 hW2
      have:=ih i y hy (hh y (List.mem_of_getElem? hy)) W2 (hb'.trans (hW2.mono hb'.size)) ((hl.below hW').below hW2)
      rw [hf i y hy] at this
      exact this
    have:=ynW k v nm (some ⟨b,off,none⟩) xs.length cap W q1 q2 hs hne' hpos (xs.all yb6) (fun W'=>by have:=yfe k W';rw [← hr] at this;exact this) hall
    rw [yjP,decide_eq_true hm,decide_eq_true hpos,decide_eq_true hr]
    simpa only [Bool.true_and] using this
   ·have:=ynX k v nm (some ⟨b,off,none⟩) xs.length cap W q1 q2 hs hne' hpos (ydS k) (by rw [beq_eq_false_iff_ne];omega) (fun W'=>yfe k W')
    simpa [hr] using this
  ·have hne':nm.isEmpty=false:=by rw [hne];simp [hm]
   have:=yfR k v nm (some ⟨b,off,none⟩) xs.length cap W q1 q2 true false hs hne' (.inr (.inl rfl))
   simpa [hm] using this
theorem ybj {α:Type} (cf:α→List Value) (sz:Nat) (hsz:∀ x,(cf x).length=sz):∀ (l:List α) (k:Nat) (x:α),l[k]?=some x→∀ q,q < sz→(l.flatMap cf)[k*sz+q]?=(cf x)[q]?:=by
 intro l
 induction l with
 | nil=>intro k x h;simp at h
 | cons y r ih =>
  intro k x h q hq
  rw [List.flatMap_cons]
  cases k with
  | zero =>
   simp only [List.getElem?_cons_zero,Option.some.injEq] at h
   subst h
   rw [Nat.zero_mul,Nat.zero_add,List.getElem?_append_left (by rw [hsz];exact hq)]
  | succ k =>
   have e:(k+1)*sz+q=(cf y).length+(k*sz+q):=by rw [hsz,Nat.succ_mul];omega
   rw [e,List.getElem?_append_right (by omega),Nat.add_sub_cancel_left]
   exact ih k x (by simpa using h) q hq
def ycQ (l:List Cl):Bool:=decide (0 < l.length)&&l.all yff
def ycR (l:List Vl):Bool:=decide (0 < l.length)&&l.all ybJ
theorem ym2 {B:Nat} {u:Value} (l:List Cl) (w:World) (h:RowAt B w u l.length (l.flatMap clC)) (hn:l.length≤1000000000000000) (hs:∀ x ∈ l,x.name.length≤140737488355328) {EP:Prop} (hl:LaidIf EP w) :
  Calls Tryz.prog 73 #[u] w fun e w'=>e=.returned (.bool (ycQ l))∧Below w.heap.size w w':=by
 unfold ycQ
 rcases h with ⟨h0,ao,cap,rfl⟩|⟨b,off,cap,rfl,hB,hlt,hc⟩
 ·rw [h0]
  go_enter Tryz.func73,Tryz.ntmps73
  go_wp2
  go_ret
  exact ⟨rfl,Below.refl _ _⟩
 ·have ha:=ypk b off cap l w hlt hn (fun k x hx=>?_) (fun k x hx W hW=>ygA x W (hs x (List.mem_of_getElem? hx)) (hl.below hW))
  rotate_left
  ·have g:=ybj clC 2 (fun _=>rfl) l k x hx
   exact ⟨hc _ _ (g 0 (by decide)),hc _ _ (g 1 (by decide))⟩
  by_cases hp:0 < l.length
  ·have hp':(0:Int) < (l.length:Int):=by omega
   rw [decide_eq_true hp,Bool.true_and]
   generalize l.all yff=A at ha ⊢
   generalize l.length=n at ha hp hp' ⊢
   go_enter Tryz.func73,Tryz.ntmps73
   go_wp2_with (go_at_call 121;refine ha.mono ?_;rintro e w1 ⟨rfl,b1⟩)
   go_ret
   exact ⟨rfl,b1⟩
  ·have h0:l.length=0:=by omega
   rw [h0]
   clear ha
   go_enter Tryz.func73,Tryz.ntmps73
   go_wp2
   go_ret
   exact ⟨rfl,Below.refl _ _⟩
theorem yoT {B:Nat} {u:Value} (l:List Vl) (w:World) (h:RowAt B w u l.length (l.flatMap vlC)) (hn:l.length≤1000000000000000) (hs:∀ x ∈ l,x.s.length≤140737488355328) :
  Calls Tryz.prog 76 #[u] w fun e w'=>e=.returned (.bool (ycR l))∧Below w.heap.size w w':=by
 unfold ycR
 rcases h with ⟨h0,ao,cap,rfl⟩|⟨b,off,cap,rfl,hB,hlt,hc⟩
 ·rw [h0]
  go_enter Tryz.func76,Tryz.ntmps76
  go_wp2
  go_ret
  exact ⟨rfl,Below.refl _ _⟩
 ·have ha:=ypn b off cap l w hlt hn (fun k x hx=>?_) (fun k x hx W hW=>ydk x W (hs x (List.mem_of_getElem? hx)))
  rotate_left
  ·have g:=ybj vlC 3 (fun _=>rfl) l k x hx
   exact ⟨hc _ _ (g 0 (by decide)),hc _ _ (g 1 (by decide)),hc _ _ (g 2 (by decide))⟩
  by_cases hp:0 < l.length
  ·have hp':(0:Int) < (l.length:Int):=by omega
   rw [decide_eq_true hp,Bool.true_and]
   generalize l.all ybJ=A at ha ⊢
   generalize l.length=n at ha hp hp' ⊢
   go_enter Tryz.func76,Tryz.ntmps76
   go_wp2_with (go_at_call 125;refine ha.mono ?_;rintro e w1 ⟨rfl,b1⟩)
   go_ret
   exact ⟨rfl,b1⟩
  ·have h0:l.length=0:=by omega
   rw [h0]
   clear ha
   go_enter Tryz.func76,Tryz.ntmps76
   go_wp2
   go_ret
   exact ⟨rfl,Below.refl _ _⟩
def ycH (k:Int):Nat:=if k=1 then 9 else if k=2∨k=9 then 1 else if k=3 then 53 else if k=4 then 5 else if k=5∨k=8 then 7 else if k=6 then 21 else if k=7 then 3 else if k=10 then 65 else if k=11 then 513 else if k=12 then 773 else if k=13 then 3713 else 0
def yfS (k:Int):Bool:=decide (1≤k∧k≤16)
theorem yjE (w:World):∀ k:Nat,1≤k→k≤16→Calls Tryz.prog 70 #[.int .i64 (k:Int)] w fun e w'=>e=.returned (.tuple #[.int .i64 (ycH k:Nat),.bool true])∧w'=w:=by
 intro k h1 h2
 obtain rfl|rfl|rfl|rfl|rfl|rfl|rfl|rfl|rfl|rfl|rfl|rfl|rfl|rfl|rfl|rfl:k=1∨k=2∨k=3∨k=4∨k=5∨k=6∨k=7∨k=8∨k=9∨k=10∨k=11∨k=12∨k=13∨k=14∨k=15∨k=16:=by omega
 all_goals
  go_enter Tryz.func70,Tryz.ntmps70
  go_wp2
  go_ret2
  exact ⟨rfl,rfl⟩
theorem ExAt.len {B:Nat} {w:World} {u:Value} {x:Ex} (h:ExAt B w u x):∃ ao ca,u=exV x.k x.v x.nm (.slice ao x.args.length ca):=by
 cases h with
 | nil k v nm ao cap _=>exact ⟨_,_,rfl⟩
 | args k v nm b off cap xs us=>exact ⟨_,_,rfl⟩
def ydP (all:Bool) (x:Ex):Bool:=if all=true then ybe x else yb6 x
theorem yhG {B:Nat} {w:World} {u:Value} {x:Ex} (all:Bool) (h:ExAt B w u x) (hf:Fit x) {EP:Prop} (hl:LaidIf EP w) :
  Calls Tryz.prog 80 #[.bool all,u] w fun e w'=>e=.returned (.bool (ydP all x))∧Below w.heap.size w w':=by
 obtain ⟨ao,ca,rfl⟩:=h.len
 have hx:=yfn (EP:=EP) h hf
 rw [exV] at hx ⊢
 have b0:=(Below.refl w.heap.size w).alloc (Nat.le_refl _) (.cells #[.int .i64 x.k,.int .i64 x.v.k,.int .i64 x.v.n,.string ⟨x.v.s.toArray⟩,.string ⟨x.nm.toArray⟩,.slice ao x.args.length ca] 29)
 have h1:=hx _ b0 (hl.below b0)
 have h2:=yfp x ao ca (w.alloc (.cells #[.int .i64 x.k,.int .i64 x.v.k,.int .i64 x.v.n,.string ⟨x.v.s.toArray⟩,.string ⟨x.nm.toArray⟩,.slice ao x.args.length ca] 29))
 clear hx h hf
 unfold ydP
 cases all
 ·simp only [Bool.false_eq_true,if_false]
  generalize yb6 x=R at h1 ⊢
  go_enter Tryz.func80,Tryz.ntmps80
  go_wp2_with (go_at_call 78;refine h1.mono ?_;rintro e w1 ⟨rfl,b1⟩)
  go_ret
  exact ⟨rfl,b0.trans (b1.mono (by simp))⟩
 ·simp only [if_true]
  generalize ybe x=R at h2 ⊢
  go_enter Tryz.func80,Tryz.ntmps80
  go_wp2_with (go_at_call 79;refine h2.mono ?_;rintro e w1 ⟨rfl,b1⟩)
  go_ret
  exact ⟨rfl,b0.trans (b1.mono (by simp))⟩
theorem yhI (w:World) (k:Int) (h:¬ (1≤k∧k≤16)):Calls Tryz.prog 70 #[.int .i64 k] w fun e w'=>e=.returned (.tuple #[.int .i64 0,.bool false])∧w'=w:=by
 have q:∀ j:Int,1≤j→j≤16→(k == j)=false:=fun j h1 h2=>by rw [beq_eq_false_iff_ne];omega
 have a1:=q 1 (by decide) (by decide)
 have a2:=q 2 (by decide) (by decide)
 have a3:=q 3 (by decide) (by decide)
 have a4:=q 4 (by decide) (by decide)
 have a5:=q 5 (by decide) (by decide)
 have a6:=q 6 (by decide) (by decide)
 have a7:=q 7 (by decide) (by decide)
 have a8:=q 8 (by decide) (by decide)
 have a9:=q 9 (by decide) (by decide)
 have a10:=q 10 (by decide) (by decide)
 have a11:=q 11 (by decide) (by decide)
 have a12:=q 12 (by decide) (by decide)
 have a13:=q 13 (by decide) (by decide)
 have a14:=q 14 (by decide) (by decide)
 have a15:=q 15 (by decide) (by decide)
 have a16:=q 16 (by decide) (by decide)
 clear q h
 go_enter Tryz.func70,Tryz.ntmps70
 go_wp2
 go_ret2
 exact ⟨rfl,rfl⟩
def yaL (m o:Int):Bool:=bits BinOp.and IntKind.i64 m o != 0
theorem yrZ (m o:Int) (r e:Bool) (nb:Nat) (w:World) (hc:w.cell? ⟨nb,0,none⟩=some (.int .i64 m)) :
  Calls Tryz.prog 71 #[.int .i64 o,.bool r,.bool e,.pointer (some ⟨nb,0,none⟩)] w fun e' w'=>e'=.returned (.bool (if yaL m o=true then r else e))∧w'=w:=by
 have hh:yaL m o=(bits BinOp.and IntKind.i64 m o != 0):=rfl
 cases hq:(bits BinOp.and IntKind.i64 m o != 0)
 ·rw [hh,hq]
  simp only [Bool.false_eq_true,if_false]
  clear hh
  go_enter Tryz.func71,Tryz.ntmps71
  go_wp2
  go_ret
  exact ⟨rfl,rfl⟩
 ·rw [hh,hq]
  simp only [if_true]
  clear hh
  go_enter Tryz.func71,Tryz.ntmps71
  go_wp2
  go_ret
  exact ⟨rfl,rfl⟩
mutual
def yaQ:Ex→Nat
 | .mk _ _ _ args=>ybl args+1
def ybl:List Ex→Nat
 | []=>0
 | x::xs=>yaQ x+ybl xs
end
theorem yg1 (a b:List Ex):ybl (a++b)=ybl a+ybl b:=by
 induction a with
 | nil=>rw [List.nil_append,ybl,Nat.zero_add]
 | cons x r ih=>rw [List.cons_append,ybl,ybl,ih];omega
theorem ycZ (x:Ex):1≤yaQ x:=by
 cases x;rw [yaQ];omega
theorem ymE (l:List Ex):l.length≤ybl l:=by
 induction l with
 | nil=>rw [ybl];exact Nat.le_refl _
 | cons x r ih=>rw [ybl,List.length_cons];have:=ycZ x;omega
theorem ydZ (x:Ex):yaQ x=ybl x.args+1:=by cases x;rw [yaQ];rfl
def exC (p:Ex×Value):List Value:=[.int .i64 p.1.k,.int .i64 p.1.v.k,.int .i64 p.1.v.n,.string ⟨p.1.v.s.toArray⟩,.string ⟨p.1.nm.toArray⟩,p.2]
theorem ygt (l:List (Ex×Value)):(l.flatMap exC).length=l.length*6:=by
 induction l with
 | nil=>rfl
 | cons x r ih=>rw [List.flatMap_cons,List.length_append,ih,List.length_cons];simp only [exC,List.length_cons,List.length_nil];omega
theorem ExAt.pairs {B:Nat} {w:World} {x:Ex} {a:Value} (h:ExAt B w (exV x.k x.v x.nm a) x) :
  ∃ (ao:Option Addr) (ca:Nat) (ps:List (Ex×Value)),a=.slice ao x.args.length ca∧ps.map (·.1)=x.args∧(∀ p ∈ ps,ExAt B w (exV p.1.k p.1.v p.1.nm p.2) p.1)∧(x.args=[]→ao=none→ca=0) ∧
   (x.args≠[]→∃ b off,ao=some ⟨b,off,none⟩∧b < w.heap.size∧∀ j u,(ps.flatMap exC)[j]?=some u→w.cell? ⟨b,off+j,none⟩=some u):=by
 have go:∀ u,ExAt B w u x→u=exV x.k x.v x.nm a→∃ (ao:Option Addr) (ca:Nat) (ps:List (Ex×Value)),a=.slice ao x.args.length ca∧ps.map (·.1)=x.args∧(∀ p ∈ ps,ExAt B w (exV p.1.k p.1.v p.1.nm p.2) p.1)∧(x.args=[]→ao=none→ca=0) ∧
   (x.args≠[]→∃ b off,ao=some ⟨b,off,none⟩∧b < w.heap.size∧∀ j u,(ps.flatMap exC)[j]?=some u→w.cell? ⟨b,off+j,none⟩=some u):=by
  intro u hu e
  cases hu with
  | nil k v nm ao cap hz =>
   simp only [exV,Value.agg.injEq,Array.mk.injEq,List.cons.injEq,and_true] at e
   exact ⟨ao,cap,[],e.2.2.2.2.2.symm,rfl,(by intro p hp;cases hp),fun _=>hz,fun hh=>absurd rfl hh⟩
  | args k v nm b off cap xs us hx hB hs hc hh =>
   simp only [exV,Value.agg.injEq,Array.mk.injEq,List.cons.injEq,and_true] at e
   have hform:∀ i:Nat,∃ s:Value,∀ y,xs[i]?=some y→us i=exV y.k y.v y.nm s:=by
    intro i
    cases hi:xs[i]? with
    | none=>exact ⟨undef,fun y hy=>by cases hy⟩
    | some z =>
     obtain ⟨k',v',nm',ao,n,ca,e⟩:=(hh i z hi).form
     have hp:=ExAt.parts (e ▸ hh i z hi)
     refine ⟨.slice ao n ca,fun y hy=>?_⟩
     cases hy
     rw [e,hp.1,hp.2.1,hp.2.2]
   have hf:=fun i=>Classical.choose_spec (hform i)
   generalize hS:(fun i=>Classical.choose (hform i))=S at hf
   have hf':∀ i y,xs[i]?=some y→us i=exV y.k y.v y.nm (S i):=fun i y hy=>by have:=hf i y hy;rw [← hS];exact this
   let ps:List (Ex×Value):=xs.mapIdx fun i y=>(y,S i)
   have hget:∀ i:Nat,ps[i]?=(xs[i]?).map fun y=>(y,S i):=fun i=>List.getElem?_mapIdx
   refine ⟨some ⟨b,off,none⟩,cap,ps,e.2.2.2.2.2.symm, ?_, ?_,(fun _ hh=>by cases hh),fun _=>⟨b,off,rfl,hs, ?_⟩⟩
   ·apply List.ext_getElem?
    intro i
    rw [List.getElem?_map,hget,Option.map_map]
    show Option.map _ xs[i]?=xs[i]?
    cases xs[i]? <;> rfl
   ·intro p hp
    obtain ⟨i,hi⟩:=List.mem_iff_getElem?.1 hp
    rw [hget] at hi
    obtain ⟨y,hy,rfl⟩:=Option.map_eq_some_iff.1 hi
    have:=hh i y hy
    rw [hf' i y hy] at this
    exact this
   ·intro j u hj
    have hjl:=(List.getElem?_eq_some_iff.1 hj).1
    rw [ygt] at hjl
    have hq:j % 6 < 6:=Nat.mod_lt _ (by decide)
    have hjk:j=(j / 6)*6+j % 6:=by omega
    have hk:j / 6 < ps.length:=by omega
    have hx':ps[j / 6]?=some ps[j / 6]:=List.getElem?_eq_getElem hk
    have hfg:=ybj exC 6 (fun _=>rfl) ps (j / 6) _ hx' (j % 6) hq
    rw [← hjk] at hfg
    rw [hfg] at hj
    rw [hget] at hx'
    obtain ⟨y,hy,hyp⟩:=Option.map_eq_some_iff.1 hx'
    rw [← hyp] at hj
    obtain ⟨k',v',nm',a',e',c0,c1,c2,c3,c4,c5⟩:=hc (j / 6) (List.getElem?_eq_some_iff.1 hy).1
    have e2:=e'.symm.trans (hf' (j / 6) y hy)
    simp only [exV,Value.agg.injEq,Array.mk.injEq,List.cons.injEq,and_true] at e2
    obtain ⟨r0,r1,r2,r3,r4,r5⟩:=e2
    have hoff:off+j=off+6*(j / 6)+j % 6:=by omega
    rw [hoff]
    generalize j % 6=q at hj hq
    match q,hq,hj with
    | 0,_,hj=>exact c0.trans ((congrArg some r0).trans hj)
    | 1,_,hj=>exact c1.trans ((congrArg some r1).trans hj)
    | 2,_,hj=>exact c2.trans ((congrArg some r2).trans hj)
    | 3,_,hj=>exact c3.trans ((congrArg some r3).trans hj)
    | 4,_,hj=>exact c4.trans ((congrArg some r4).trans hj)
    | 5,_,hj=>exact c5.trans ((congrArg some r5).trans hj)
 exact go _ h rfl
theorem Tryz.info_ex:(Tryz.prog.info? 29).map (fun i=>(i.zero,i.size,i.bytes))=some (some (.agg #[.int .i64 0,.int .i64 0,.int .i64 0,.string ⟨#[]⟩,.string ⟨#[]⟩,.slice none 0 0]),6,80):=by kernel_rfl
theorem Fit.args {x:Ex} (h:Fit x):x.args.length*80≤140737488351232∧∀ y ∈ x.args,Fit y:=by
 cases h with
 | mk k v nm args hv hn ha hh=>exact ⟨ha,hh⟩
theorem yfo {w:World} {u:Value} {x:Ex} (h:ExAt 0 w u x) (hf:Fit x) :
  Calls Tryz.prog 69 #[u] w fun e w'=>e=.returned (.bool (decide (15 < yaQ x)))∧Below w.heap.size w w':=by
 obtain ⟨i0,hi,hz0,hz1,hz2⟩:=info_parts Tryz.info_ex
 obtain ⟨ao,ca,rfl⟩:=h.len
 have hx0:ExAt 0 w (exV x.k x.v x.nm (.slice ao x.args.length ca)) x:=h
 rw [exV]
 have b0:=(Below.refl w.heap.size w).alloc (Nat.le_refl _) (.cells #[.int .i64 x.k,.int .i64 x.v.k,.int .i64 x.v.n,.string ⟨x.v.s.toArray⟩,.string ⟨x.nm.toArray⟩,.slice ao x.args.length ca] 29)
 have b1:=b0.alloc (by simp) (.cells #[.int .i64 x.k,.int .i64 x.v.k,.int .i64 x.v.n,.string ⟨x.v.s.toArray⟩,.string ⟨x.nm.toArray⟩,.slice ao x.args.length ca] 29)
 have ow:=yom (w.alloc (.cells #[.int .i64 x.k,.int .i64 x.v.k,.int .i64 x.v.n,.string ⟨x.v.s.toArray⟩,.string ⟨x.nm.toArray⟩,.slice ao x.args.length ca] 29)) w.heap.size 29 6 #[.int .i64 x.k,.int .i64 x.v.k,.int .i64 x.v.n,.string ⟨x.v.s.toArray⟩,.string ⟨x.nm.toArray⟩,.slice ao x.args.length ca] rfl (by simp)
 have hpl:(w.alloc (.cells #[.int .i64 x.k,.int .i64 x.v.k,.int .i64 x.v.n,.string ⟨x.v.s.toArray⟩,.string ⟨x.nm.toArray⟩,.slice ao x.args.length ca] 29)).heap.size=w.heap.size+1:=by simp
 rw [hpl] at ow
 have HS:Hid (yaQ x=0+ybl (([(x,Value.slice ao x.args.length ca)].drop 0).map (·.1))):=by show _=_;simp [ybl]
 go_enter Tryz.func69,Tryz.ntmps69
 go_wp2
 go_loopw [3,4] (fun v i wr=>∃ (ps:List (Ex×Value)) (k:Nat),i=.int .i64 (k:Int)∧wr.ownsRow w.heap.size 29 6 v ps.length (ps.flatMap exC)∧Below w.heap.size w wr∧k≤ps.length∧Hid (∀ p ∈ ps,ExAt 0 w (exV p.1.k p.1.v p.1.nm p.2) p.1∧Fit p.1)∧ps.length≤2000000000000 ∧
   Hid (yaQ x=k+ybl ((ps.drop k).map (·.1)))) (fun _ i _=>16 - (intOf i).toNat)
 case atStart =>
  exact ⟨[(x,.slice ao x.args.length ca)],0,rfl,ow,b1,by simp,(by intro p hp;simp at hp;subst hp;exact ⟨hx0,hf⟩),by simp,HS⟩
 case round =>
  obtain ⟨ps,k,rfl,hown,hnx,hk,HP,hlen,HE⟩:=hrel
  clear ow HS b0 b1 hpl h
  by_cases hlt:k < ps.length
  ·obtain ⟨g,cap',hv,hg1,hg2⟩:=yeH hown (by omega)
   subst hv
   by_cases h15:ps.length≤15
   ·obtain ⟨⟨y,s⟩,hy⟩:∃ p,ps[k]?=some p:=⟨ps[k],List.getElem?_eq_getElem hlt⟩
    obtain ⟨hye,hyf⟩:=HP.out _ (List.mem_of_getElem? hy)
    obtain ⟨ao2,ca2,qs,hs,hmap,hall,hnil,hcells⟩:=ExAt.pairs hye
    have hs:s=.slice ao2 y.args.length ca2:=hs
    have hmap:qs.map (·.1)=y.args:=hmap
    have hql:qs.length=y.args.length:=by rw [← hmap,List.length_map]
    have hfl:=ybj exC 6 (fun _=>rfl) ps k _ hy 5 (by decide)
    have a5:wr.cell? ⟨g,k*6+5,none⟩=some (.slice ao2 y.args.length ca2):=(yiA hown _ s (hfl.trans rfl)).trans (by rw [hs])
    have hd1:(k:Int) < (ps.length:Int):=by omega
    have hd2:(ps.length:Int)≤15:=by omega
    have hfit:=hyf.args.1
    have HP2:Hid (∀ p ∈ ps++qs,ExAt 0 w (exV p.1.k p.1.v p.1.nm p.2) p.1∧Fit p.1):=by
     intro p hp
     rcases List.mem_append.1 hp with hp|hp
     ·exact HP.out p hp
     ·refine ⟨hall p hp,hyf.args.2 p.1 ?_⟩
      rw [← hmap];exact List.mem_map.2 ⟨p,hp,rfl⟩
    have HE2:Hid (yaQ x=(k+1)+ybl (((ps++qs).drop (k+1)).map (·.1))):=by
     show _=_
     rw [HE.out,List.drop_eq_getElem_cons hlt,List.map_cons,ybl]
     have e1:ps[k]=(y,s):=(List.getElem?_eq_some_iff.1 hy).2
     rw [e1,ydZ,List.drop_append_of_le_length (by omega),List.map_append,yg1,hmap]
     dsimp only
     omega
    have hR:∀ {v':Value} {w':World},w'.ownsRow w.heap.size 29 6 v' (ps.length+y.args.length) (ps.flatMap exC++qs.flatMap exC)→w'.ownsRow w.heap.size 29 6 v' (ps++qs).length ((ps++qs).flatMap exC):=by
     intro v' w' hh
     rw [List.length_append,List.flatMap_append,hql];exact hh
    have hsz:=hnx.size
    have hlt5:=hown.lt
    have hnone:∀ u ∈ qs.flatMap exC,u.oneCell'=true:=by
     intro u hu
     obtain ⟨p,hp,hup⟩:=List.mem_flatMap.1 hu
     have hone:=(hall p hp).one
     simp only [exC,List.mem_cons,List.not_mem_nil,or_false] at hup
     rcases hup with rfl|rfl|rfl|rfl|rfl|rfl <;> first|rfl|exact hone
    clear HP HE hye hfl hy
    cases ao2 with
    | none =>
     have hy0:y.args=[]:=by
      rcases Classical.em (y.args=[]) with h|h
      ·exact h
      ·obtain ⟨b,off,hh,-⟩:=hcells h;cases hh
     have hc0:=hnil hy0 rfl
     subst hc0
     have hq0:qs=[]:=by rw [hy0] at hql;exact List.length_eq_zero_iff.1 hql
     rw [hy0] at a5
     simp only [List.length_nil] at a5
     go_wp2_with (at_builtin;refine wpList_append_own_none rfl _ _ 27 rfl w.heap.size 29 i0 6 Tryz.underlying27 hi _ _ _ rfl hown rfl ?_)
     go_roundw
     case rel=>exact ⟨ps,k+1,by go_num,hown,hnx,by omega,(by have:=HP2;rw [hq0,List.append_nil] at this;exact this),hlen,(by have:=HE2;rw [hq0,List.append_nil] at this;exact this)⟩
     case measure=>simp [intOf];omega
    | some ad =>
     have hnews:∀ j u,(qs.flatMap exC)[j]?=some u→wr.cell? (ad.add j)=some u:=by
      rcases Classical.em (y.args=[]) with h|h
      ·intro j u hj
       have hq0:qs=[]:=by rw [h] at hql;exact List.length_eq_zero_iff.1 hql
       rw [hq0] at hj;simp at hj
      ·obtain ⟨b,off,hh,hb,hc⟩:=hcells h
       intro j u hj
       cases hh
       rw [Addr.add_mid]
       exact (hnx.cell (p:=⟨b,off+j,none⟩) hb).trans (hc j u hj)
     have hnl:(qs.flatMap exC).length=y.args.length*6:=by rw [ygt,hql]
     clear hcells hall hnil
     go_wp2_with (at_builtin;refine wpList_append_own _ rfl _ _ 27 rfl w.heap.size 29 i0 (.agg #[.int .i64 0,.int .i64 0,.int .i64 0,.string ⟨#[]⟩,.string ⟨#[]⟩,.slice none 0 0]) 6 80 Tryz.underlying27 hi hz0 hz1 hz2 rfl (by decide) _ _ _ rfl hown ad y.args.length ca2 (qs.flatMap exC) rfl hnl hnews hnone ?c3 ?c4 ?c5 ?_)
     case c3=>unfold maxLen;omega
     case c4=>omega
     intro v' w3 hown' hgrow _
     have hB3:Below w.heap.size w w3:=hnx.grown hgrow hsz (fun j hj=>(hlt5 j hj).1)
     have R3:=hR hown'
     clear hown' hgrow hown hlt5 hnews
     go_wp2
     go_roundw
     case rel=>exact ⟨ps++qs,k+1,by go_num,R3,hB3,by simp;omega,HP2,by simp;omega,HE2⟩
     case measure=>simp [intOf];omega
   ·have hd1:(k:Int) < (ps.length:Int):=by omega
    have HZ:Hid (15 < yaQ x):=by
     show _ < _
     rw [HE.out]
     have:=ymE ((ps.drop k).map (·.1))
     rw [List.length_map,List.length_drop] at this
     omega
    have hd2:decide ((ps.length:Int)≤15)=false:=by simp;omega
    have hd3:decide (ps.length≤15)=false:=by simp;omega
    have hd4:(15:Int) < (ps.length:Int):=by omega
    clear HE HP
    go_wp2
    go_ret
    exact ⟨yaw (by simp [HZ.out]),hnx⟩
  ·obtain ⟨ao',cap',hv⟩:=ycC hown
   subst hv
   have hkn:k=ps.length:=by omega
   have HZ:Hid (yaQ x=ps.length):=by
    show _=_
    rw [HE.out,hkn,List.drop_length]
    simp [ybl]
   have hd0:decide ((k:Int) < (ps.length:Int))=false:=by simp;omega
   clear HE HP
   go_wp2
   go_ret
   exact ⟨yaw (by rw [HZ.out,Bool.eq_iff_iff];simp;omega),hnx⟩
def yaN (c:Cm):Bool:=decide (5 < c.cols.length∨5 < c.vals.length∨5 < c.fields.length) || decide (15 < yaQ c.expr) || decide (15 < yaQ c.wh)
theorem yhv {w:World} (c:Cm) (a1 a2 a3 a4 a5:Option Addr) (c1 c2 c3 c4 c5:Nat) (he:ExAt 0 w (exV c.expr.k c.expr.v c.expr.nm (.slice a4 c.expr.args.length c4)) c.expr) (hw:ExAt 0 w (exV c.wh.k c.wh.v c.wh.nm (.slice a5 c.wh.args.length c5)) c.wh) (fe:Fit c.expr) (fw:Fit c.wh) :
  Calls Tryz.prog 28 #[.agg (cmL c (.slice a1 c.cols.length c1) (.slice a2 c.vals.length c2) (.slice a3 c.fields.length c3) (.slice a4 c.expr.args.length c4) (.slice a5 c.wh.args.length c5)).toArray] w fun e w'=>e=.returned (.bool (yaN c))∧Below w.heap.size w w':=by
 have b0:=(Below.refl w.heap.size w).alloc (Nat.le_refl _) (.cells (cmL c (.slice a1 c.cols.length c1) (.slice a2 c.vals.length c2) (.slice a3 c.fields.length c3) (.slice a4 c.expr.args.length c4) (.slice a5 c.wh.args.length c5)).toArray 31)
 have d4:(w.alloc (.cells (cmL c (.slice a1 c.cols.length c1) (.slice a2 c.vals.length c2) (.slice a3 c.fields.length c3) (.slice a4 c.expr.args.length c4) (.slice a5 c.wh.args.length c5)).toArray 31)).cell? ⟨w.heap.size,4,none⟩=some (.slice a1 c.cols.length c1):=(Lib.cell_of_heap (heap_alloc_new w (.cells (cmL c (.slice a1 c.cols.length c1) (.slice a2 c.vals.length c2) (.slice a3 c.fields.length c3) (.slice a4 c.expr.args.length c4) (.slice a5 c.wh.args.length c5)).toArray 31)) 4).trans rfl
 have d9:(w.alloc (.cells (cmL c (.slice a1 c.cols.length c1) (.slice a2 c.vals.length c2) (.slice a3 c.fields.length c3) (.slice a4 c.expr.args.length c4) (.slice a5 c.wh.args.length c5)).toArray 31)).cell? ⟨w.heap.size,9,none⟩=some (.slice a2 c.vals.length c2):=(Lib.cell_of_heap (heap_alloc_new w (.cells (cmL c (.slice a1 c.cols.length c1) (.slice a2 c.vals.length c2) (.slice a3 c.fields.length c3) (.slice a4 c.expr.args.length c4) (.slice a5 c.wh.args.length c5)).toArray 31)) 9).trans rfl
 have d10:(w.alloc (.cells (cmL c (.slice a1 c.cols.length c1) (.slice a2 c.vals.length c2) (.slice a3 c.fields.length c3) (.slice a4 c.expr.args.length c4) (.slice a5 c.wh.args.length c5)).toArray 31)).cell? ⟨w.heap.size,10,none⟩=some (.slice a3 c.fields.length c3):=(Lib.cell_of_heap (heap_alloc_new w (.cells (cmL c (.slice a1 c.cols.length c1) (.slice a2 c.vals.length c2) (.slice a3 c.fields.length c3) (.slice a4 c.expr.args.length c4) (.slice a5 c.wh.args.length c5)).toArray 31)) 10).trans rfl
 have d11:(w.alloc (.cells (cmL c (.slice a1 c.cols.length c1) (.slice a2 c.vals.length c2) (.slice a3 c.fields.length c3) (.slice a4 c.expr.args.length c4) (.slice a5 c.wh.args.length c5)).toArray 31)).cell? ⟨w.heap.size,11,none⟩=some (.int .i64 c.expr.k):=(Lib.cell_of_heap (heap_alloc_new w (.cells (cmL c (.slice a1 c.cols.length c1) (.slice a2 c.vals.length c2) (.slice a3 c.fields.length c3) (.slice a4 c.expr.args.length c4) (.slice a5 c.wh.args.length c5)).toArray 31)) 11).trans rfl
 have d12:(w.alloc (.cells (cmL c (.slice a1 c.cols.length c1) (.slice a2 c.vals.length c2) (.slice a3 c.fields.length c3) (.slice a4 c.expr.args.length c4) (.slice a5 c.wh.args.length c5)).toArray 31)).cell? ⟨w.heap.size,12,none⟩=some (.int .i64 c.expr.v.k):=(Lib.cell_of_heap (heap_alloc_new w (.cells (cmL c (.slice a1 c.cols.length c1) (.slice a2 c.vals.length c2) (.slice a3 c.fields.length c3) (.slice a4 c.expr.args.length c4) (.slice a5 c.wh.args.length c5)).toArray 31)) 12).trans rfl
 have d13:(w.alloc (.cells (cmL c (.slice a1 c.cols.length c1) (.slice a2 c.vals.length c2) (.slice a3 c.fields.length c3) (.slice a4 c.expr.args.length c4) (.slice a5 c.wh.args.length c5)).toArray 31)).cell? ⟨w.heap.size,13,none⟩=some (.int .i64 c.expr.v.n):=(Lib.cell_of_heap (heap_alloc_new w (.cells (cmL c (.slice a1 c.cols.length c1) (.slice a2 c.vals.length c2) (.slice a3 c.fields.length c3) (.slice a4 c.expr.args.length c4) (.slice a5 c.wh.args.length c5)).toArray 31)) 13).trans rfl
 have d14:(w.alloc (.cells (cmL c (.slice a1 c.cols.length c1) (.slice a2 c.vals.length c2) (.slice a3 c.fields.length c3) (.slice a4 c.expr.args.length c4) (.slice a5 c.wh.args.length c5)).toArray 31)).cell? ⟨w.heap.size,14,none⟩=some (.string ⟨c.expr.v.s.toArray⟩):=(Lib.cell_of_heap (heap_alloc_new w (.cells (cmL c (.slice a1 c.cols.length c1) (.slice a2 c.vals.length c2) (.slice a3 c.fields.length c3) (.slice a4 c.expr.args.length c4) (.slice a5 c.wh.args.length c5)).toArray 31)) 14).trans rfl
 have d15:(w.alloc (.cells (cmL c (.slice a1 c.cols.length c1) (.slice a2 c.vals.length c2) (.slice a3 c.fields.length c3) (.slice a4 c.expr.args.length c4) (.slice a5 c.wh.args.length c5)).toArray 31)).cell? ⟨w.heap.size,15,none⟩=some (.string ⟨c.expr.nm.toArray⟩):=(Lib.cell_of_heap (heap_alloc_new w (.cells (cmL c (.slice a1 c.cols.length c1) (.slice a2 c.vals.length c2) (.slice a3 c.fields.length c3) (.slice a4 c.expr.args.length c4) (.slice a5 c.wh.args.length c5)).toArray 31)) 15).trans rfl
 have d16:(w.alloc (.cells (cmL c (.slice a1 c.cols.length c1) (.slice a2 c.vals.length c2) (.slice a3 c.fields.length c3) (.slice a4 c.expr.args.length c4) (.slice a5 c.wh.args.length c5)).toArray 31)).cell? ⟨w.heap.size,16,none⟩=some (.slice a4 c.expr.args.length c4):=(Lib.cell_of_heap (heap_alloc_new w (.cells (cmL c (.slice a1 c.cols.length c1) (.slice a2 c.vals.length c2) (.slice a3 c.fields.length c3) (.slice a4 c.expr.args.length c4) (.slice a5 c.wh.args.length c5)).toArray 31)) 16).trans rfl
 have d18:(w.alloc (.cells (cmL c (.slice a1 c.cols.length c1) (.slice a2 c.vals.length c2) (.slice a3 c.fields.length c3) (.slice a4 c.expr.args.length c4) (.slice a5 c.wh.args.length c5)).toArray 31)).cell? ⟨w.heap.size,18,none⟩=some (.int .i64 c.wh.k):=(Lib.cell_of_heap (heap_alloc_new w (.cells (cmL c (.slice a1 c.cols.length c1) (.slice a2 c.vals.length c2) (.slice a3 c.fields.length c3) (.slice a4 c.expr.args.length c4) (.slice a5 c.wh.args.length c5)).toArray 31)) 18).trans rfl
 have d19:(w.alloc (.cells (cmL c (.slice a1 c.cols.length c1) (.slice a2 c.vals.length c2) (.slice a3 c.fields.length c3) (.slice a4 c.expr.args.length c4) (.slice a5 c.wh.args.length c5)).toArray 31)).cell? ⟨w.heap.size,19,none⟩=some (.int .i64 c.wh.v.k):=(Lib.cell_of_heap (heap_alloc_new w (.cells (cmL c (.slice a1 c.cols.length c1) (.slice a2 c.vals.length c2) (.slice a3 c.fields.length c3) (.slice a4 c.expr.args.length c4) (.slice a5 c.wh.args.length c5)).toArray 31)) 19).trans rfl
 have d20:(w.alloc (.cells (cmL c (.slice a1 c.cols.length c1) (.slice a2 c.vals.length c2) (.slice a3 c.fields.length c3) (.slice a4 c.expr.args.length c4) (.slice a5 c.wh.args.length c5)).toArray 31)).cell? ⟨w.heap.size,20,none⟩=some (.int .i64 c.wh.v.n):=(Lib.cell_of_heap (heap_alloc_new w (.cells (cmL c (.slice a1 c.cols.length c1) (.slice a2 c.vals.length c2) (.slice a3 c.fields.length c3) (.slice a4 c.expr.args.length c4) (.slice a5 c.wh.args.length c5)).toArray 31)) 20).trans rfl
 have d21:(w.alloc (.cells (cmL c (.slice a1 c.cols.length c1) (.slice a2 c.vals.length c2) (.slice a3 c.fields.length c3) (.slice a4 c.expr.args.length c4) (.slice a5 c.wh.args.length c5)).toArray 31)).cell? ⟨w.heap.size,21,none⟩=some (.string ⟨c.wh.v.s.toArray⟩):=(Lib.cell_of_heap (heap_alloc_new w (.cells (cmL c (.slice a1 c.cols.length c1) (.slice a2 c.vals.length c2) (.slice a3 c.fields.length c3) (.slice a4 c.expr.args.length c4) (.slice a5 c.wh.args.length c5)).toArray 31)) 21).trans rfl
 have d22:(w.alloc (.cells (cmL c (.slice a1 c.cols.length c1) (.slice a2 c.vals.length c2) (.slice a3 c.fields.length c3) (.slice a4 c.expr.args.length c4) (.slice a5 c.wh.args.length c5)).toArray 31)).cell? ⟨w.heap.size,22,none⟩=some (.string ⟨c.wh.nm.toArray⟩):=(Lib.cell_of_heap (heap_alloc_new w (.cells (cmL c (.slice a1 c.cols.length c1) (.slice a2 c.vals.length c2) (.slice a3 c.fields.length c3) (.slice a4 c.expr.args.length c4) (.slice a5 c.wh.args.length c5)).toArray 31)) 22).trans rfl
 have d23:(w.alloc (.cells (cmL c (.slice a1 c.cols.length c1) (.slice a2 c.vals.length c2) (.slice a3 c.fields.length c3) (.slice a4 c.expr.args.length c4) (.slice a5 c.wh.args.length c5)).toArray 31)).cell? ⟨w.heap.size,23,none⟩=some (.slice a5 c.wh.args.length c5):=(Lib.cell_of_heap (heap_alloc_new w (.cells (cmL c (.slice a1 c.cols.length c1) (.slice a2 c.vals.length c2) (.slice a3 c.fields.length c3) (.slice a4 c.expr.args.length c4) (.slice a5 c.wh.args.length c5)).toArray 31)) 23).trans rfl
 have he1:=yfo (he.under b0) fe
 have hw1:=fun (W:World) (hW:Below w.heap.size w W)=>yfo (hw.under hW) fw
 rw [exV] at he1
 simp only [exV] at hw1
 unfold yaN
 generalize decide (15 < yaQ c.expr)=E at he1 ⊢
 generalize decide (15 < yaQ c.wh)=F at hw1 ⊢
 clear he hw fe fw
 by_cases hm:5 < c.cols.length∨5 < c.vals.length∨5 < c.fields.length
 ·have hd:(5:Int) < max (max (c.cols.length:Int) (c.vals.length:Int)) (c.fields.length:Int):=by omega
  rw [decide_eq_true hm]
  clear hm he1 hw1
  go_enter Tryz.func28,Tryz.ntmps28
  go_wp2_with fail
  all_goals go_ret
  all_goals exact ⟨rfl,b0⟩
 ·have hd:¬ (5:Int) < max (max (c.cols.length:Int) (c.vals.length:Int)) (c.fields.length:Int):=by omega
  have l1:¬ 5 < c.cols.length:=by omega
  have l2:¬ 5 < c.vals.length:=by omega
  have l3:¬ 5 < c.fields.length:=by omega
  rw [decide_eq_false hm,Bool.false_or]
  clear hm
  cases E
  ·rw [Bool.false_or]
   go_enter Tryz.func28,Tryz.ntmps28
   go_wp2_with fail
   all_goals
    refine he1.mono ?_
    rintro e w1 ⟨rfl,b1⟩
    have f18:=(b1.cell (p:=⟨w.heap.size,18,none⟩) (by simp)).trans d18;have f19:=(b1.cell (p:=⟨w.heap.size,19,none⟩) (by simp)).trans d19;have f20:=(b1.cell (p:=⟨w.heap.size,20,none⟩) (by simp)).trans d20;have f21:=(b1.cell (p:=⟨w.heap.size,21,none⟩) (by simp)).trans d21;have f22:=(b1.cell (p:=⟨w.heap.size,22,none⟩) (by simp)).trans d22;have f23:=(b1.cell (p:=⟨w.heap.size,23,none⟩) (by simp)).trans d23
    have q1:Below w.heap.size w w1:=b0.trans (b1.mono (by simp))
    go_wp2_with fail
    refine (hw1 _ q1).mono ?_
    rintro e w2 ⟨rfl,b2⟩
    go_wp2
    go_ret
    exact ⟨yaw (by cases F <;> simp <;> omega),q1.trans (b2.mono q1.size)⟩
  ·rw [Bool.true_or]
   clear hw1
   go_enter Tryz.func28,Tryz.ntmps28
   go_wp2_with fail
   all_goals
    refine he1.mono ?_
    rintro e w1 ⟨rfl,b1⟩
    go_wp2
    go_ret
    exact ⟨rfl,b0.trans (b1.mono (by simp))⟩
theorem yrA:yaL ((0:Nat):Int) 1=false:=by decide
theorem yrB:yaL ((0:Nat):Int) 2=false:=by decide
theorem yrC:yaL ((0:Nat):Int) 4=false:=by decide
theorem yrD:yaL ((0:Nat):Int) 8=false:=by decide
theorem ypS:yaL ((0:Nat):Int) 16=false:=by decide
theorem ypT:yaL ((0:Nat):Int) 32=false:=by decide
theorem ypU:yaL ((0:Nat):Int) 64=false:=by decide
theorem ynh:yaL ((0:Nat):Int) 128=false:=by decide
theorem yni:yaL ((0:Nat):Int) 256=false:=by decide
theorem ynj:yaL ((0:Nat):Int) 512=false:=by decide
theorem ykM:yaL ((0:Nat):Int) 1024=false:=by decide
theorem ykN:yaL ((0:Nat):Int) 2048=false:=by decide
theorem yrE:yaL ((1:Nat):Int) 1=true:=by decide
theorem yrF:yaL ((1:Nat):Int) 2=false:=by decide
theorem yrG:yaL ((1:Nat):Int) 4=false:=by decide
theorem yrH:yaL ((1:Nat):Int) 8=false:=by decide
theorem ypV:yaL ((1:Nat):Int) 16=false:=by decide
theorem ypW:yaL ((1:Nat):Int) 32=false:=by decide
theorem ypX:yaL ((1:Nat):Int) 64=false:=by decide
theorem ynk:yaL ((1:Nat):Int) 128=false:=by decide
theorem ynl:yaL ((1:Nat):Int) 256=false:=by decide
theorem ynm:yaL ((1:Nat):Int) 512=false:=by decide
theorem ykO:yaL ((1:Nat):Int) 1024=false:=by decide
theorem ykP:yaL ((1:Nat):Int) 2048=false:=by decide
theorem yrI:yaL ((3:Nat):Int) 1=true:=by decide
theorem yrJ:yaL ((3:Nat):Int) 2=true:=by decide
theorem yrK:yaL ((3:Nat):Int) 4=false:=by decide
theorem yrL:yaL ((3:Nat):Int) 8=false:=by decide
theorem yp2:yaL ((3:Nat):Int) 16=false:=by decide
theorem yp3:yaL ((3:Nat):Int) 32=false:=by decide
theorem yp4:yaL ((3:Nat):Int) 64=false:=by decide
theorem ynq:yaL ((3:Nat):Int) 128=false:=by decide
theorem ynr:yaL ((3:Nat):Int) 256=false:=by decide
theorem yns:yaL ((3:Nat):Int) 512=false:=by decide
theorem ykX:yaL ((3:Nat):Int) 1024=false:=by decide
theorem ykY:yaL ((3:Nat):Int) 2048=false:=by decide
theorem yrM:yaL ((5:Nat):Int) 1=true:=by decide
theorem yrN:yaL ((5:Nat):Int) 2=false:=by decide
theorem yrO:yaL ((5:Nat):Int) 4=true:=by decide
theorem yrP:yaL ((5:Nat):Int) 8=false:=by decide
theorem yp9:yaL ((5:Nat):Int) 16=false:=by decide
theorem yqa:yaL ((5:Nat):Int) 32=false:=by decide
theorem yqb:yaL ((5:Nat):Int) 64=false:=by decide
theorem ynA:yaL ((5:Nat):Int) 128=false:=by decide
theorem ynB:yaL ((5:Nat):Int) 256=false:=by decide
theorem ynC:yaL ((5:Nat):Int) 512=false:=by decide
theorem yk5:yaL ((5:Nat):Int) 1024=false:=by decide
theorem yk6:yaL ((5:Nat):Int) 2048=false:=by decide
theorem yrQ:yaL ((7:Nat):Int) 1=true:=by decide
theorem yrR:yaL ((7:Nat):Int) 2=true:=by decide
theorem yrS:yaL ((7:Nat):Int) 4=true:=by decide
theorem yrT:yaL ((7:Nat):Int) 8=false:=by decide
theorem yqg:yaL ((7:Nat):Int) 16=false:=by decide
theorem yqh:yaL ((7:Nat):Int) 32=false:=by decide
theorem yqi:yaL ((7:Nat):Int) 64=false:=by decide
theorem ynK:yaL ((7:Nat):Int) 128=false:=by decide
theorem ynL:yaL ((7:Nat):Int) 256=false:=by decide
theorem ynM:yaL ((7:Nat):Int) 512=false:=by decide
theorem yld:yaL ((7:Nat):Int) 1024=false:=by decide
theorem yle:yaL ((7:Nat):Int) 2048=false:=by decide
theorem yrU:yaL ((9:Nat):Int) 1=true:=by decide
theorem yrV:yaL ((9:Nat):Int) 2=false:=by decide
theorem yrW:yaL ((9:Nat):Int) 4=false:=by decide
theorem yrX:yaL ((9:Nat):Int) 8=true:=by decide
theorem yqj:yaL ((9:Nat):Int) 16=false:=by decide
theorem yqk:yaL ((9:Nat):Int) 32=false:=by decide
theorem yql:yaL ((9:Nat):Int) 64=false:=by decide
theorem ynN:yaL ((9:Nat):Int) 128=false:=by decide
theorem ynO:yaL ((9:Nat):Int) 256=false:=by decide
theorem ynP:yaL ((9:Nat):Int) 512=false:=by decide
theorem ylf:yaL ((9:Nat):Int) 1024=false:=by decide
theorem ylg:yaL ((9:Nat):Int) 2048=false:=by decide
theorem ypY:yaL ((21:Nat):Int) 1=true:=by decide
theorem ypZ:yaL ((21:Nat):Int) 2=false:=by decide
theorem yp0:yaL ((21:Nat):Int) 4=true:=by decide
theorem yp1:yaL ((21:Nat):Int) 8=false:=by decide
theorem ynn:yaL ((21:Nat):Int) 16=true:=by decide
theorem yno:yaL ((21:Nat):Int) 32=false:=by decide
theorem ynp:yaL ((21:Nat):Int) 64=false:=by decide
theorem ykQ:yaL ((21:Nat):Int) 128=false:=by decide
theorem ykR:yaL ((21:Nat):Int) 256=false:=by decide
theorem ykS:yaL ((21:Nat):Int) 512=false:=by decide
theorem yjg:yaL ((21:Nat):Int) 1024=false:=by decide
theorem yjh:yaL ((21:Nat):Int) 2048=false:=by decide
theorem yp5:yaL ((53:Nat):Int) 1=true:=by decide
theorem yp6:yaL ((53:Nat):Int) 2=false:=by decide
theorem yp7:yaL ((53:Nat):Int) 4=true:=by decide
theorem yp8:yaL ((53:Nat):Int) 8=false:=by decide
theorem ynx:yaL ((53:Nat):Int) 16=true:=by decide
theorem yny:yaL ((53:Nat):Int) 32=true:=by decide
theorem ynz:yaL ((53:Nat):Int) 64=false:=by decide
theorem yk2:yaL ((53:Nat):Int) 128=false:=by decide
theorem yk3:yaL ((53:Nat):Int) 256=false:=by decide
theorem yk4:yaL ((53:Nat):Int) 512=false:=by decide
theorem yjo:yaL ((53:Nat):Int) 1024=false:=by decide
theorem yjp:yaL ((53:Nat):Int) 2048=false:=by decide
theorem yqc:yaL ((65:Nat):Int) 1=true:=by decide
theorem yqd:yaL ((65:Nat):Int) 2=false:=by decide
theorem yqe:yaL ((65:Nat):Int) 4=false:=by decide
theorem yqf:yaL ((65:Nat):Int) 8=false:=by decide
theorem ynD:yaL ((65:Nat):Int) 16=false:=by decide
theorem ynE:yaL ((65:Nat):Int) 32=false:=by decide
theorem ynF:yaL ((65:Nat):Int) 64=true:=by decide
theorem yk7:yaL ((65:Nat):Int) 128=false:=by decide
theorem yk8:yaL ((65:Nat):Int) 256=false:=by decide
theorem yk9:yaL ((65:Nat):Int) 512=false:=by decide
theorem yjq:yaL ((65:Nat):Int) 1024=false:=by decide
theorem yjr:yaL ((65:Nat):Int) 2048=false:=by decide
theorem ynt:yaL ((513:Nat):Int) 1=true:=by decide
theorem ynu:yaL ((513:Nat):Int) 2=false:=by decide
theorem ynv:yaL ((513:Nat):Int) 4=false:=by decide
theorem ynw:yaL ((513:Nat):Int) 8=false:=by decide
theorem ykZ:yaL ((513:Nat):Int) 16=false:=by decide
theorem yk0:yaL ((513:Nat):Int) 32=false:=by decide
theorem yk1:yaL ((513:Nat):Int) 64=false:=by decide
theorem yjl:yaL ((513:Nat):Int) 128=false:=by decide
theorem yjm:yaL ((513:Nat):Int) 256=false:=by decide
theorem yjn:yaL ((513:Nat):Int) 512=true:=by decide
theorem yhz:yaL ((513:Nat):Int) 1024=false:=by decide
theorem yhA:yaL ((513:Nat):Int) 2048=false:=by decide
theorem ynG:yaL ((773:Nat):Int) 1=true:=by decide
theorem ynH:yaL ((773:Nat):Int) 2=false:=by decide
theorem ynI:yaL ((773:Nat):Int) 4=true:=by decide
theorem ynJ:yaL ((773:Nat):Int) 8=false:=by decide
theorem yla:yaL ((773:Nat):Int) 16=false:=by decide
theorem ylb:yaL ((773:Nat):Int) 32=false:=by decide
theorem ylc:yaL ((773:Nat):Int) 64=false:=by decide
theorem yjs:yaL ((773:Nat):Int) 128=false:=by decide
theorem yjt:yaL ((773:Nat):Int) 256=true:=by decide
theorem yju:yaL ((773:Nat):Int) 512=true:=by decide
theorem yhB:yaL ((773:Nat):Int) 1024=false:=by decide
theorem yhC:yaL ((773:Nat):Int) 2048=false:=by decide
theorem ykT:yaL ((3713:Nat):Int) 1=true:=by decide
theorem ykU:yaL ((3713:Nat):Int) 2=false:=by decide
theorem ykV:yaL ((3713:Nat):Int) 4=false:=by decide
theorem ykW:yaL ((3713:Nat):Int) 8=false:=by decide
theorem yji:yaL ((3713:Nat):Int) 16=false:=by decide
theorem yjj:yaL ((3713:Nat):Int) 32=false:=by decide
theorem yjk:yaL ((3713:Nat):Int) 64=false:=by decide
theorem yhw:yaL ((3713:Nat):Int) 128=true:=by decide
theorem yhx:yaL ((3713:Nat):Int) 256=false:=by decide
theorem yhy:yaL ((3713:Nat):Int) 512=true:=by decide
theorem ygw:yaL ((3713:Nat):Int) 1024=true:=by decide
theorem ygx:yaL ((3713:Nat):Int) 2048=true:=by decide
def yiL (k:Int) (o:Int) (r e:Bool):Bool:=if yaL (ycH k:Nat) o=true then r else e
def ydE (c:Cm):Bool :=
 yfS c.kind&&yiL c.kind 1 (yan c.name) (decide (c.name=[]))&&yiL c.kind 2 (yan c.other) (decide (c.other=[]))&&yiL c.kind 4 (yan c.column) (decide (c.column=[])) &&
 yiL c.kind 8 (ycQ c.cols) (decide (c.cols.length=0))&&yiL c.kind 16 (yeT c.ty) (decide (c.ty=0))&&yiL c.kind 32 (ybJ c.val) (ybu c.val) &&
 yiL c.kind 64 (ycR c.vals) (decide (c.vals.length=0))&&yiL c.kind 128 (c.fields.all yan) (decide (c.fields.length=0))&&yiL c.kind 256 (yb6 c.expr) (ybe c.expr) &&
 yiL c.kind 512 (ydP c.all c.wh) (!c.all&&ybe c.wh)&&yiL c.kind 1024 (decide (c.order=[]) || yan c.order) (decide (c.order=[])) &&
 yiL c.kind 2048 (decide (-1≤c.limit∧c.limit≤999999999)) (decide (c.limit=0))
def ybz (k:Int):Int:=if k < 1∨11 < k then -1 else if k≤2 then 0 else if k≤4 then 1 else 2
def yeK (k:Int) (v:Vl) (nm:List UInt8) (n:Nat):Bool:=decide ((n:Int)=ybz k)&&(decide (k=2) || decide (nm=[]))&&(decide (k=1) || ybu v)
mutual
def exR:Ex→Bool
 | .mk k v nm args=>yeK k v nm args.length&&!(decide (k=2)&&!yan nm)&&ybJ v&&yil args
def yil:List Ex→Bool
 | []=>true
 | x::xs=>exR x&&yil xs
end
def yax (s:List UInt8) (b:Bool):Bool:=if b=true then yan s else decide (s=[])
def yaW (n a b:Int):Bool:=decide (a≤n)&&decide (n≤b)
def ybF (c:Cm):Bool :=
 (yaW c.kind 1 16&&yax c.name (decide (c.kind≤13))&&yax c.other (decide (c.kind=5) || decide (c.kind=7) || decide (c.kind=8))&&yax c.column (yaW c.kind 3 6 || decide (c.kind=8) || decide (c.kind=12))) &&
 (if c.kind=3∨c.kind=6 then yaW c.ty 1 3 else decide (c.ty=0)) &&
 (ybJ c.val&&(decide (c.kind=3) || ybu c.val)) &&
 (decide (c.kind=1) == decide (0 < c.cols.length)&&decide (c.kind=10) == decide (0 < c.vals.length)&&(decide (c.kind=13) || (decide (c.fields.length=0)&&decide (c.order=[])&&decide (c.limit=0)))) &&
 c.cols.all (fun x=>yan x.name&&yaW x.ty 1 3)&&c.vals.all ybJ&&c.fields.all yan &&
 (if c.kind=13 then yaW c.limit (-1) 999999999&&(decide (c.order=[]) || yan c.order) else true) &&
 (if c.kind=12 then exR c.expr else ybe c.expr) &&
 (if (yaW c.kind 11 13&&!c.all)=true then exR c.wh else ybe c.wh&&(yaW c.kind 11 13 || !c.all))
theorem yeD (v:Vl) (h:ybu v=true):ybJ v=true:=by
 obtain ⟨k,n,s⟩:=v
 simp only [ybu,Bool.and_eq_true,decide_eq_true_eq] at h
 obtain ⟨⟨rfl,rfl⟩,rfl⟩:=h
 decide
theorem yg7 (k:Int):yeT k=yaW k 1 3:=by
 unfold yeT yaW
 by_cases h1:k < 0
 ·have e:atL yaB k=[]:=by simp [atL,h1]
  rw [e]
  have:¬ 1≤k:=by omega
  simp [this]
 ·obtain ⟨n,rfl⟩:=Int.eq_ofNat_of_zero_le (show 0≤k by omega)
  by_cases h4:4≤n
  ·have e:atL yaB (n:Int)=[]:=by
    have:¬ ((n:Int) < 0):=by omega
    simp only [atL,this,if_false,Int.toNat_natCast]
    simp only [List.getD]
    rw [List.getElem?_eq_none (by simp [yaB];omega)];rfl
   rw [e]
   have:¬ ((n:Int)≤3):=by omega
   simp [this]
  ·match n,h4 with
   | 0,_=>decide
   | 1,_=>decide
   | 2,_=>decide
   | 3,_=>decide
   | n+4,h=>omega
theorem ykm (k:Int) (h:3≤k) (h':k≤11):(ydS k:Int)=ybz k∧0 < ydS k:=by
 have hc:k=3∨k=4∨k=5∨k=6∨k=7∨k=8∨k=9∨k=10∨k=11:=by omega
 rcases hc with rfl|rfl|rfl|rfl|rfl|rfl|rfl|rfl|rfl <;> decide
theorem ykn (k:Int) (h:k < 1∨11 < k):ydS k=0:=by
 have h3:¬ (k=3∨k=4):=by omega
 have e:atL ya3 k=[]:=by
  unfold atL
  by_cases h1:k < 0
  ·rw [if_pos h1]
  ·rw [if_neg h1]
   obtain ⟨n,rfl⟩:=Int.eq_ofNat_of_zero_le (show 0≤k by omega)
   rw [Int.toNat_natCast]
   by_cases h0:n=0
   ·subst h0;rfl
   ·simp only [List.getD]
    rw [List.getElem?_eq_none (by simp [ya3];omega)];rfl
 unfold ydS
 rw [if_neg h3,e];rfl
mutual
theorem ydX:∀ x:Ex,yb6 x=exR x
 | .mk k v nm args=>by
  have ih:=yfB args
  rw [yb6,exR,yeK]
  by_cases h1:k=1
  ·subst h1
   have e:ybz 1=0:=by decide
   rw [if_pos rfl,e]
   cases args with
   | nil=>rw [yil];simp;cases ybJ v <;> simp
   | cons y r =>
    have:¬ ((List.length r:Int)+1=0):=by omega
    simp [this]
  rw [if_neg h1]
  by_cases h2:k=2
  ·subst h2
   have e:ybz 2=0:=by decide
   rw [if_pos rfl,e]
   cases args with
   | nil =>
    rw [yil]
    cases hv:ybu v
    ·simp
    ·rw [yeD v hv];simp
   | cons y r =>
    have:¬ ((List.length r:Int)+1=0):=by omega
    simp [this]
  rw [if_neg h2]
  by_cases h3:3≤k∧k≤11
  ·obtain ⟨e1,e2⟩:=ykm k h3.1 h3.2
   rw [← e1,ih]
   cases hv:ybu v
   ·simp [h1]
   ·rw [yeD v hv]
    by_cases hn:args.length=ydS k
    ·have:0 < args.length:=by omega
     have hi:(args.length:Int)=(ydS k:Int):=by omega
     simp [h1,h2,hn,e2]
    ·have hi:¬ ((args.length:Int)=(ydS k:Int)):=by omega
     simp [hn,hi]
  ·have h4:k < 1∨11 < k:=by omega
   have e:ybz k = -1:=by rw [ybz,if_pos h4]
   rw [ykn k h4,e]
   have hi:¬ ((args.length:Int) = -1):=by omega
   by_cases hz:args.length=0
   ·simp [hz]
   ·simp [hz,hi]
theorem yfB:∀ l:List Ex,yd7 l=yil l
 | []=>by rw [yd7,yil]
 | x::xs=>by rw [yd7,yil,ydX x,yfB xs]
end
theorem ym3 (l:List Cl):l.all (fun x=>yan x.name&&yaW x.ty 1 3)=l.all yff:=by
 congr 1
 funext x
 rw [← yg7];rfl
theorem yfT {α:Type} (l:List α):decide (0 < l.length)=!decide (l.length=0):=by
 cases l <;> simp
theorem yjO (c:Cm):ydE c=ybF c:=by
 obtain ⟨k,name,other,column,cols,ty,val,vals,fields,expr,all,wh,order,limit⟩:=c
 simp only [ydE,ybF,yax]
 rw [ym3]
 by_cases hk:1≤k∧k≤16
 ·obtain ⟨h1,h2⟩:=hk
  have hc:k=1∨k=2∨k=3∨k=4∨k=5∨k=6∨k=7∨k=8∨k=9∨k=10∨k=11∨k=12∨k=13∨k=14∨k=15∨k=16:=by omega
  have hcol:cols.length=0→cols.all yff=true:=by intro h;rw [List.eq_nil_of_length_eq_zero h];rfl
  have hval:vals.length=0→vals.all ybJ=true:=by intro h;rw [List.eq_nil_of_length_eq_zero h];rfl
  have hfld:fields.length=0→fields.all yan=true:=by intro h;rw [List.eq_nil_of_length_eq_zero h];rfl
  have hnv:=yeD val
  have hty:=yg7 ty
  have hex:=ydX expr
  have hwx:=ydX wh
  have hac:ycQ cols=(decide (0 < cols.length)&&cols.all yff):=rfl
  have hav:ycR vals=(decide (0 < vals.length)&&vals.all ybJ):=rfl
  have hwh:ydP all wh=if all=true then ybe wh else exR wh:=by rw [ydP,hwx]
  have hlim:decide (-1≤limit∧limit≤999999999)=yaW limit (-1) 999999999:=by unfold yaW;rw [Bool.eq_iff_iff];simp
  have hcl:=yfT cols
  have hvl:=yfT vals
  have hfl:=yfT fields
  rw [hac,hav,hwh,hty,hex,hlim,hcl,hvl]
  generalize cols.all yff=C1 at *
  generalize vals.all ybJ=V1 at *
  generalize fields.all yan=F1 at *
  generalize yaW ty 1 3=T1 at *
  generalize exR expr=X1 at *
  generalize exR wh=X2 at *
  generalize ybe expr=N1 at *
  generalize ybe wh=N2 at *
  generalize ybJ val=V2 at *
  generalize ybu val=V3 at *
  generalize yan name=A1 at *
  generalize yan other=A2 at *
  generalize yan column=A3 at *
  generalize yan order=A4 at *
  generalize yaW limit (-1) 999999999=L1 at *
  have e1:cols.length=0↔decide (cols.length=0)=true:=by simp
  have e2:vals.length=0↔decide (vals.length=0)=true:=by simp
  have e3:fields.length=0↔decide (fields.length=0)=true:=by simp
  rw [e1] at hcol
  rw [e2] at hval
  rw [e3] at hfld
  generalize decide (cols.length=0)=C0 at *
  generalize decide (vals.length=0)=V0 at *
  generalize decide (fields.length=0)=F0 at *
  generalize decide (name=[])=M1 at *
  generalize decide (other=[])=M2 at *
  generalize decide (column=[])=M3 at *
  generalize decide (order=[])=M4 at *
  generalize decide (ty=0)=T0 at *
  generalize decide (limit=0)=L0 at *
  clear hac hav hwh hty hex hwx hlim hcl hvl hfl e1 e2 e3 h1 h2
  rcases hc with rfl|rfl|rfl|rfl|rfl|rfl|rfl|rfl|rfl|rfl|rfl|rfl|rfl|rfl|rfl|rfl
  all_goals
   simp only [yiL,show ycH 1=9 from rfl,show ycH 2=1 from rfl,show ycH 3=53 from rfl,show ycH 4=5 from rfl,show ycH 5=7 from rfl,show ycH 6=21 from rfl,show ycH 7=3 from rfl,show ycH 8=7 from rfl,show ycH 9=1 from rfl,show ycH 10=65 from rfl,show ycH 11=513 from rfl,show ycH 12=773 from rfl,show ycH 13=3713 from rfl,show ycH 14=0 from rfl,show ycH 15=0 from rfl,show ycH 16=0 from rfl]
   simp only [yrA,yrB,yrC,yrD,ypS,ypT,ypU,ynh,yni,ynj,ykM,ykN,yrE,yrF,yrG,yrH,ypV,ypW,ypX,ynk,ynl,ynm,ykO,ykP,yrI,yrJ,yrK,yrL,yp2,yp3,yp4,ynq,ynr,yns,ykX,ykY,yrM,yrN,yrO,yrP,yp9,yqa,yqb,ynA,ynB,ynC,yk5,yk6,yrQ,yrR,yrS,yrT,yqg,yqh,yqi,ynK,ynL,ynM,yld,yle,yrU,yrV,yrW,yrX,yqj,yqk,yql,ynN,ynO,ynP,ylf,ylg,ypY,ypZ,yp0,yp1,ynn,yno,ynp,ykQ,ykR,ykS,yjg,yjh,yp5,yp6,yp7,yp8,ynx,yny,ynz,yk2,yk3,yk4,yjo,yjp,yqc,yqd,yqe,yqf,ynD,ynE,ynF,yk7,yk8,yk9,yjq,yjr,ynt,ynu,ynv,ynw,ykZ,yk0,yk1,yjl,yjm,yjn,yhz,yhA,ynG,ynH,ynI,ynJ,yla,ylb,ylc,yjs,yjt,yju,yhB,yhC,ykT,ykU,ykV,ykW,yji,yjj,yjk,yhw,yhx,yhy,ygw,ygx,yaW,yfS]
   simp
   cases C0 <;> cases V0 <;> cases F0 <;> cases V3 <;> simp_all
   all_goals
    rw [Bool.eq_iff_iff]
    simp only [Bool.and_eq_true,Bool.or_eq_true]
    try (cases all <;> simp)
    all_goals try (constructor <;> (intro h;simp_all))
 ·have e1:yfS k=false:=by simp only [yfS,decide_eq_false_iff_not];exact hk
  have e2:yaW k 1 16=false:=by
   unfold yaW
   rw [Bool.and_eq_false_iff,decide_eq_false_iff_not,decide_eq_false_iff_not];omega
  rw [e1,e2];simp
theorem yfh (p:Nat→Bool) (i:Nat) (hp:p i=true):∀ l:List Nat,i ∈ l→l.countP (fun j=>p j&&j != i)+1≤l.countP p:=by
 intro l
 induction l with
 | nil=>intro h;cases h
 | cons x l ih =>
  intro h
  have mono:l.countP (fun j=>p j&&j != i)≤l.countP p:=List.countP_mono_left fun j _ hj=>by simp at hj;exact hj.1
  by_cases hx:x=i
  ·subst hx
   simp [hp]
   exact mono
  ·have hm:i ∈ l:=by
    rcases List.mem_cons.1 h with e|e
    ·exact absurd e.symm hx
    ·exact e
   have:=ih hm
   simp only [List.countP_cons]
   have e:(x != i)=true:=by simpa using hx
   rw [e,Bool.and_true]
   omega
def left (ops:Array Oper) (listed:Array Bool):Nat:=(List.range ops.size).countP fun j=>!listed.getD j true
section
variable (md:Region.Mode) (ops:Array Oper) (L0:Array Bool) (a0:Act)
end
def yjF (ops:Array Oper) (L0:Array Bool) (s:Nat):Bool:=(List.range ops.size).all fun j=>L0.getD j true || (ops[j]?).all fun p=>p.dst != some s
theorem yhH {listed:Array Bool} {i:Nat} (h:listed.getD i false=true):listed.getD i true=true:=by
 simp only [Array.getD] at h ⊢
 split at h
 ·rename_i hi;rw [dif_pos hi];exact h
 ·cases h
structure CmFit (c:Cm):Prop where
 name:c.name.length≤140737488355328
 other:c.other.length≤140737488355328
 column:c.column.length≤140737488355328
 order:c.order.length≤140737488355328
 val:c.val.s.length≤140737488355328
 cols:c.cols.length≤1000000000000000
 vals:c.vals.length≤1000000000000000
 fields:c.fields.length≤1000000000000000
 colsN:∀ x ∈ c.cols,x.name.length≤140737488355328
 valsN:∀ x ∈ c.vals,x.s.length≤140737488355328
 fieldsN:∀ x ∈ c.fields,x.length≤140737488355328
 expr:Fit c.expr
 wh:Fit c.wh
def Held (w:World) (c:Cm) (cv vv fv ea wa:Value) (m:Int) (W:World):Prop :=
 (∀ o x,(cmL c cv vv fv ea wa)[o]?=some x→W.cell? ⟨w.heap.size,o,none⟩=some x)∧W.cell? ⟨w.heap.size+1,0,none⟩=some (.int .i64 m)∧Below w.heap.size w W∧w.heap.size+2≤W.heap.size
theorem Held.start (w:World) (c:Cm) (cv vv fv ea wa:Value) (m:Int) :
  Held w c cv vv fv ea wa m ((w.alloc (.cells (cmL c cv vv fv ea wa).toArray 31)).alloc (.cells #[.int .i64 m] 3)):=by
 have hz:(w.alloc (.cells (cmL c cv vv fv ea wa).toArray 31)).heap.size=w.heap.size+1:=by simp
 have h1:((w.alloc (.cells (cmL c cv vv fv ea wa).toArray 31)).alloc (.cells #[.int .i64 m] 3)).heap[w.heap.size]?=some (.cells (cmL c cv vv fv ea wa).toArray 31) :=
  (Below.heap_alloc _ _ _ (by omega)).trans (heap_alloc_new _ _)
 refine ⟨fun o x hx=>?_, ?_,((Below.refl _ _).alloc (Nat.le_refl _) _).alloc (by simp) _,by simp⟩
 ·rw [Lib.cell_of_heap h1];simpa using hx
 ·have h2:((w.alloc (.cells (cmL c cv vv fv ea wa).toArray 31)).alloc (.cells #[.int .i64 m] 3)).heap[w.heap.size+1]?=some (.cells #[.int .i64 m] 3):=by rw [← hz];exact heap_alloc_new _ _
  rw [Lib.cell_of_heap h2];rfl
theorem Held.below {w:World} {c:Cm} {cv vv fv ea wa:Value} {m:Int} {W W':World} (h:Held w c cv vv fv ea wa m W) (hb:Below W.heap.size W W'):Held w c cv vv fv ea wa m W':=by
 obtain ⟨h1,h2,h3,h4⟩:=h
 exact ⟨fun o x hx=>(hb.cell (p:=⟨w.heap.size,o,none⟩) (by show w.heap.size < _;omega)).trans (h1 o x hx),(hb.cell (p:=⟨w.heap.size+1,0,none⟩) (by show w.heap.size+1 < _;omega)).trans h2,h3.trans (hb.mono h3.size),Nat.le_trans h4 hb.size⟩
theorem yjc {w:World} (c:Cm) (fv:Value) (h:RowAt 0 w fv c.fields.length (c.fields.flatMap stC)) (hn:c.fields.length≤1000000000000000) (hs:∀ x ∈ c.fields,x.length≤140737488355328) {EP:Prop} (hl:LaidIf EP w) :
  Calls Tryz.prog 77 #[fv,.func (.func 72) #[] #[]] w fun e w'=>e=.returned (.bool (c.fields.all yan))∧Below w.heap.size w w':=by
 rcases h with ⟨h0,ao,cap,rfl⟩|⟨b,off,cap,rfl,hB,hlt,hc⟩
 ·have e:c.fields=[]:=List.eq_nil_of_length_eq_zero h0
  rw [e]
  exact ymY ao cap _ w
 ·refine ypm b off cap c.fields w hlt hn (fun k x hx=>?_) (fun k x hx W hW=>?_)
  ·have g:=ybj stC 1 (fun _=>rfl) c.fields k x hx 0 (by decide)
   rw [Nat.mul_one,Nat.add_zero] at g
   exact hc _ _ g
  ·have:=yc6 ⟨x.toArray⟩ W (by rw [yam];exact hs x (List.mem_of_getElem? hx)) (hl.below hW)
   have e0:(⟨x.toArray⟩:ByteArray).data.toList=x:=by simp
   rw [e0] at this
   exact this
theorem yds {w:World} (x:List UInt8) (hs:x.length≤140737488355328) {EP:Prop} (hl:LaidIf EP w):Calls Tryz.prog 72 #[.string ⟨x.toArray⟩] w fun e w'=>e=.returned (.bool (yan x))∧Below w.heap.size w w':=by
 have:=yc6 ⟨x.toArray⟩ w (by rw [yam];exact hs) hl
 have e0:(⟨x.toArray⟩:ByteArray).data.toList=x:=by simp
 rw [e0] at this
 exact this
end Go.Proofs.YtkpeklealgicpabGreatDoor
