/-
  Regions by rows: the general laws.
-/
import Derived.Test.YtppgkhcmdajolaaDsr
import Derived.Deep.RegionLaw
import Derived.Deep.RegionHeld3
namespace Go.Proofs.Ytppgkhcmdajolaa
open Go.RowKit


/-- what an operation leaves that only moves, picks, or is not wanted -/
def moved (ops : Array Oper) (o : Oper) (a : Act) : Option Value :=
  if Region.wanted o (yielded ops a.tmps) = true then
    match o.op with
    | .move x => some (a.eval x)
    | .assign x => some (a.eval x)
    | .pick c x y => match a.eval c with
      | .bool true => some (a.eval x)
      | .bool false => some (a.eval y)
      | _ => none
    | _ => none
  else some undef
theorem moved_yields {P : Program} {ops : Array Oper} {S : World → Prop} {o : Oper} {a : Act} {v : Value} (h : moved ops o a = some v) : YieldsIf P ops S o v a := by
  unfold moved at h
  by_cases hw : Region.wanted o (yielded ops a.tmps) = true
  · rw [if_pos hw] at h
    refine Or.inl ⟨hw, fun w _ => ?_⟩
    cases ho : o.op with
    | move x => rw [ho] at h; simp only [Option.some.injEq] at h; subst h; simp [execOp, ho]
    | assign x => rw [ho] at h; simp only [Option.some.injEq] at h; subst h; simp [execOp, ho]
    | pick c x y =>
      rw [ho] at h
      simp only at h
      cases hc : a.eval c with
      | bool b =>
        rw [hc] at h
        cases b with
        | true => simp only [Option.some.injEq] at h; subst h; simp [execOp, ho, hc, asBool]
        | false => simp only [Option.some.injEq] at h; subst h; simp [execOp, ho, hc, asBool]
      | _ => rw [hc] at h; cases h
    | _ => rw [ho] at h; cases h
  · rw [if_neg hw] at h
    simp only [Option.some.injEq] at h
    exact Or.inr ⟨by simpa using hw, h.symm⟩
theorem count_less (p : Nat → Bool) (i : Nat) (hp : p i = true) : ∀ l : List Nat, i ∈ l → l.countP (fun j => p j && j != i) + 1 ≤ l.countP p := by
  intro l
  induction l with
  | nil => intro h; cases h
  | cons x l ih =>
    intro h
    have mono : l.countP (fun j => p j && j != i) ≤ l.countP p := List.countP_mono_left fun j _ hj => by simp at hj; exact hj.1
    by_cases hx : x = i
    · subst hx
      simp [hp]
      exact mono
    · have hm : i ∈ l := by
        rcases List.mem_cons.1 h with e | e
        · exact absurd e.symm hx
        · exact e
      have := ih hm
      simp only [List.countP_cons]
      have e : (x != i) = true := by simpa using hx
      rw [e, Bool.and_true]
      omega
/-- what such an operation leaves -/
def dv (o : Oper) : Value := if o.guard.isSome = true then undef else .bool false
/-- how many are left -/
def left (ops : Array Oper) (listed : Array Bool) : Nat := (List.range ops.size).countP fun j => !listed.getD j true
section
variable (md : Region.Mode) (ops : Array Oper) (L0 : Array Bool) (a0 : Act)
/-- what is held of a state in mid-region -/
structure DeadAt (listed : Array Bool) (a : Act) : Prop where
  size : listed.size = ops.size
  defers : a.defers = a0.defers
  more : ∀ j, L0.getD j true = true → listed.getD j true = true
  new : ∀ j o d, ops[j]? = some o → L0.getD j true = false → listed.getD j true = true → o.dst = some d → a.tmps[d]? = some (dv o)
  old : ∀ d, (∀ j o, ops[j]? = some o → L0.getD j true = false → o.dst ≠ some d) → a.tmps[d]? = a0.tmps[d]?
  frame : a.tmps.size = a0.tmps.size
/-- what is asked of the operations that are left -/
structure DeadOk : Prop where
  size : L0.size = ops.size
  back : ∀ j o, ops[j]? = some o → L0.getD j true = false → ∀ e ∈ o.after, e.on < j
  dst : ∀ j o, ops[j]? = some o → L0.getD j true = false → ∃ d, o.dst = some d ∧ d < a0.tmps.size
  one : ∀ j k o p d, ops[j]? = some o → ops[k]? = some p → L0.getD j true = false → L0.getD k true = false → o.dst = some d → p.dst = some d → j = k
  runs : ∀ j o listed a, ops[j]? = some o → L0.getD j true = false → DeadAt ops L0 a0 listed a → (∀ e ∈ o.after, Region.binds md e = true → listed.getD e.on false = true) → moved ops o a = some (dv o)
end
theorem dead_done {ops : Array Oper} {L0 listed : Array Bool} {a0 a : Act} {md : Region.Mode} (hk : DeadOk md ops L0 a0) (hd : DeadAt ops L0 a0 listed a) (hr : Region.ready md ops listed = []) : ∀ j, j < ops.size → listed.getD j true = true := by
  intro j
  induction j using Nat.strongRecOn with
  | _ j ih =>
    intro hj
    apply Classical.byContradiction
    intro hn
    have hn' : listed.getD j true = false := by simpa using hn
    have h0 : L0.getD j true = false := by
      cases e : L0.getD j true
      · rfl
      · rw [hd.more j e] at hn'; cases hn'
    obtain ⟨o, ho⟩ : ∃ o, ops[j]? = some o := ⟨ops[j], Array.getElem?_eq_getElem hj⟩
    have hin : j ∈ Region.ready md ops listed := by
      unfold Region.ready
      rw [List.mem_filter]
      refine ⟨List.mem_range.2 hj, ?_⟩
      rw [hn', ho]
      simp only [Bool.not_false, Bool.true_and, Option.map_some, Option.getD_some, Array.all_eq_true_iff_forall_mem]
      intro e he
      have hlt := hk.back j o ho h0 e he
      have hl := ih e.on hlt (by omega)
      have hs := hd.size
      have : listed.getD e.on false = true := by
        simp only [Array.getD, show e.on < listed.size by omega, dif_pos] at hl ⊢
        exact hl
      rw [this]; simp
    rw [hr] at hin
    cases hin
theorem dead_run {P : Program} {md : Region.Mode} {ops : Array Oper} {Q : Exit → Act → World → Prop} {S : World → Prop} {L0 : Array Bool} {a0 : Act} {w : World} (hk : DeadOk md ops L0 a0) (hS : S w)
    (hq : ∀ a', a'.defers = a0.defers → (∀ j o d, ops[j]? = some o → L0.getD j true = false → o.dst = some d → a'.tmps[d]? = some (dv o)) → Q .normal a' w) :
    ∀ (fuel : Nat) (listed : Array Bool) (a : Act), DeadAt ops L0 a0 listed a → left ops listed ≤ fuel → wpAnyH P md ops Q S fuel listed a w := by
  have fin : ∀ listed a, DeadAt ops L0 a0 listed a → Region.ready md ops listed = [] → Q .normal a w := by
    intro listed a hd hr
    refine hq a hd.defers fun j o d hj h0 ho => hd.new j o d hj h0 ?_ ho
    exact dead_done hk hd hr j (Array.getElem?_eq_some_iff.1 hj).1
  intro fuel
  induction fuel with
  | zero =>
    intro listed a hd hl
    have hr : Region.ready md ops listed = [] := by
      cases hh : Region.ready md ops listed with
      | nil => rfl
      | cons i r =>
        exfalso
        have hi : i ∈ Region.ready md ops listed := by rw [hh]; simp
        unfold Region.ready at hi
        rw [List.mem_filter] at hi
        have hu : (!listed.getD i true) = true := by
          have := hi.2
          rw [Bool.and_eq_true] at this
          exact this.1
        have : 0 < left ops listed := List.countP_pos_iff.2 ⟨i, hi.1, hu⟩
        omega
    exact ⟨hr, fin listed a hd hr⟩
  | succ fuel ih =>
    intro listed a hd hl
    refine ⟨fin listed a hd, fun i hi => ?_⟩
    unfold Region.ready at hi
    rw [List.mem_filter, Bool.and_eq_true] at hi
    obtain ⟨hir, hu, hall⟩ := hi
    have hisz := List.mem_range.1 hir
    have hu' : listed.getD i true = false := by simpa using hu
    have h0 : L0.getD i true = false := by
      cases e : L0.getD i true
      · rfl
      · rw [hd.more i e] at hu'; cases hu'
    obtain ⟨o, ho⟩ : ∃ o, ops[i]? = some o := ⟨ops[i], Array.getElem?_eq_getElem hisz⟩
    rw [ho] at hall
    simp only [Option.map_some, Option.getD_some, Array.all_eq_true_iff_forall_mem] at hall
    have hm := hk.runs i o listed a ho h0 hd (fun e he hb => by
      have := hall e he
      rw [hb] at this
      simpa using this)
    refine (moved_yields hm).wpOp ho hS ⟨hS, ih _ _ ?_ ?_⟩
    · obtain ⟨d, hdst, hlt⟩ := hk.dst i o ho h0
      have hput : a.put o.dst (dv o) = { a with tmps := a.tmps.setIfInBounds d (dv o) } := by rw [hdst]; rfl
      have hsz := hd.size
      have hget : ∀ j, (listed.setIfInBounds i true).getD j true = if j = i then true else listed.getD j true := by
        intro j
        by_cases e : j = i
        · subst e; rw [if_pos rfl]; simp [Array.getD]
        · rw [if_neg e]
          by_cases hj : j < listed.size
          · simp [Array.getD, hj, Ne.symm e]
          · simp [Array.getD, hj]
      rw [hput]
      refine ⟨by simpa using hd.size, hd.defers, ?_, ?_, ?_, by simpa using hd.frame⟩
      · intro j hj
        rw [hget]
        by_cases e : j = i
        · rw [if_pos e]
        · rw [if_neg e]; exact hd.more j hj
      · intro j p d' hj hj0 hl hpd
        rw [hget] at hl
        by_cases e : j = i
        · subst e
          rw [ho] at hj; cases hj
          rw [hdst] at hpd; cases hpd
          rw [Array.getElem?_setIfInBounds_self, if_pos (by rw [hd.frame]; exact hlt)]
        · rw [if_neg e] at hl
          have hne : d ≠ d' := by
            intro e2
            subst e2
            exact e (hk.one j i p o d hj ho hj0 h0 hpd hdst)
          rw [Array.getElem?_setIfInBounds_ne hne]
          exact hd.new j p d' hj hj0 hl hpd
      · intro d' hd'
        have hne : d ≠ d' := by
          intro e2
          subst e2
          exact hd' i o ho h0 hdst
        rw [Array.getElem?_setIfInBounds_ne hne]
        exact hd.old d' hd'
    · have hc := count_less (fun j => !listed.getD j true) i (by simpa using hu') (List.range ops.size) hir
      have e : left ops (listed.setIfInBounds i true) = (List.range ops.size).countP (fun j => !listed.getD j true && j != i) := by
        unfold left
        apply List.countP_congr
        intro j hj
        have hj' := List.mem_range.1 hj
        have hsz := hd.size
        by_cases e : j = i
        · subst e; simp [Array.getD, hsz, hj']
        · simp [Array.getD, hsz, hj', Ne.symm e, e]
      unfold left at hl
      omega
/-- nothing that is left writes a slot -/
def noneB (ops : Array Oper) (L0 : Array Bool) (s : Nat) : Bool := (List.range ops.size).all fun j => L0.getD j true || (ops[j]?).all fun p => p.dst != some s
/-- a slot holds false when an operation comes up -/
def falseB (md : Region.Mode) (ops : Array Oper) (L0 : Array Bool) (tm : Array Value) (o : Oper) (s : Nat) : Bool :=
  o.after.any (fun e => Region.binds md e && !L0.getD e.on true && (ops[e.on]?).any fun p => p.dst == some s && p.guard.isNone) ||
  ((match tm[s]? with | some (.bool false) => true | _ => false) && noneB ops L0 s)
/-- an operation is dead -/
def deadB (md : Region.Mode) (ops : Array Oper) (L0 : Array Bool) (tm : Array Value) (o : Oper) : Bool :=
  match o.guard with
  | some (g, b) => match ops[g]? with
    | none => false
    | some og => match og.dst with
      | none => false
      | some dg => if L0.getD g true = true then (match tm[dg]? with | some (.bool c) => c != b | _ => false) && noneB ops L0 dg
        else o.after.any (fun e => Region.binds md e && e.on == g) && (og.guard.isSome || b)
  | none => match o.op with
    | .move (.tmp s) => falseB md ops L0 tm o s
    | .assign (.tmp s) => falseB md ops L0 tm o s
    | .pick (.tmp s) _ (.const (.bool false)) => falseB md ops L0 tm o s
    | _ => false
def deadAllB (md : Region.Mode) (ops : Array Oper) (L0 : Array Bool) (tm : Array Value) : Bool :=
  (List.range ops.size).all fun j => L0.getD j true || match ops[j]? with
    | none => false
    | some o => o.after.all (fun e => decide (e.on < j)) && (match o.dst with | some d => decide (d < tm.size) | none => false) && deadB md ops L0 tm o
theorem noneB_old {ops : Array Oper} {L0 listed : Array Bool} {a0 a : Act} {s : Nat} (h : noneB ops L0 s = true) (hd : DeadAt ops L0 a0 listed a) : a.tmps[s]? = a0.tmps[s]? := by
  refine hd.old s fun j o hj h0 => ?_
  have hlt := (Array.getElem?_eq_some_iff.1 hj).1
  have := List.all_eq_true.1 h j (List.mem_range.2 hlt)
  rw [h0, hj] at this
  simpa using this
theorem listed_true {listed : Array Bool} {i : Nat} (h : listed.getD i false = true) : listed.getD i true = true := by
  simp only [Array.getD] at h ⊢
  split at h
  · rename_i hi; rw [dif_pos hi]; exact h
  · cases h
theorem falseB_at {md : Region.Mode} {ops : Array Oper} {L0 listed : Array Bool} {a0 a : Act} {o : Oper} {s : Nat} (h : falseB md ops L0 a0.tmps o s = true) (hd : DeadAt ops L0 a0 listed a) (hl : ∀ e ∈ o.after, Region.binds md e = true → listed.getD e.on false = true) : a.tmps.getD s undef = .bool false := by
  have key : a.tmps[s]? = some (.bool false) := by
    unfold falseB at h
    rw [Bool.or_eq_true] at h
    rcases h with h | h
    · obtain ⟨e, he, hb⟩ := Array.any_eq_true'.1 h
      rw [Bool.and_eq_true, Bool.and_eq_true] at hb
      obtain ⟨⟨hb1, hb2⟩, hb3⟩ := hb
      cases hp : ops[e.on]? with
      | none => rw [hp] at hb3; cases hb3
      | some p =>
        rw [hp] at hb3
        simp only [Option.any_some, Bool.and_eq_true, beq_iff_eq] at hb3
        have := hd.new e.on p s hp (by simpa using hb2) (listed_true (hl e he hb1)) hb3.1
        rw [this]
        have hg : p.guard.isSome = false := by cases hpg : p.guard with
          | none => rfl
          | some _ => rw [hpg] at hb3; simp at hb3
        simp [dv, hg]
    · rw [Bool.and_eq_true] at h
      rw [noneB_old h.2 hd]
      split at h
      · assumption
      · cases h.1
  simp only [Array.getD_eq_getD_getElem?, key, Option.getD_some]
theorem dead_ok {md : Region.Mode} {ops : Array Oper} {L0 : Array Bool} {a0 : Act} (dl : List (Option Tmp)) (hsz : L0.size = ops.size) (hdl : ops.toList.map (·.dst) = dl) (hnd : dl.Nodup) (hb : deadAllB md ops L0 a0.tmps = true) : DeadOk md ops L0 a0 := by
  have each : ∀ j o, ops[j]? = some o → L0.getD j true = false → (o.after.all (fun e => decide (e.on < j)) = true ∧ (match o.dst with | some d => decide (d < a0.tmps.size) | none => false) = true) ∧ deadB md ops L0 a0.tmps o = true := by
    intro j o hj h0
    have hlt := (Array.getElem?_eq_some_iff.1 hj).1
    have := List.all_eq_true.1 hb j (List.mem_range.2 hlt)
    rw [h0, hj] at this
    simp only [Bool.false_or, Bool.and_eq_true] at this
    exact this
  refine ⟨hsz, ?_, ?_, ?_, ?_⟩
  · intro j o hj h0 e he
    have := Array.all_eq_true_iff_forall_mem.1 (each j o hj h0).1.1 e he
    simpa using this
  · intro j o hj h0
    have := (each j o hj h0).1.2
    cases hd : o.dst with
    | none => rw [hd] at this; cases this
    | some d => rw [hd] at this; exact ⟨d, rfl, by simpa using this⟩
  · intro j k o p d hj hk _ _ hod hpd
    have at' : ∀ (i : Nat) (q : Oper), ops[i]? = some q → dl[i]? = some q.dst := by
      intro i q hq
      rw [← hdl, List.getElem?_map, Array.getElem?_toList, hq]; rfl
    have h1 := at' j o hj
    have h2 := at' k p hk
    rw [hod] at h1
    rw [hpd] at h2
    exact (List.getElem?_inj (List.getElem?_eq_some_iff.1 h1).1 hnd).1 (h1.trans h2.symm)
  · intro j o listed a hj h0 hd hl
    have hB := (each j o hj h0).2
    unfold deadB at hB
    cases hg : o.guard with
    | some gb =>
      obtain ⟨g, b⟩ := gb
      have hdv : dv o = undef := by simp [dv, hg]
      rw [hg] at hB
      simp only at hB
      have hw : Region.wanted o (yielded ops a.tmps) = false := by
        cases hog : ops[g]? with
        | none => rw [hog] at hB; cases hB
        | some og =>
          rw [hog] at hB
          simp only at hB
          cases hdg : og.dst with
          | none => rw [hdg] at hB; cases hB
          | some dg =>
            rw [hdg] at hB
            simp only at hB
            by_cases hL : L0.getD g true = true
            · rw [if_pos hL, Bool.and_eq_true] at hB
              have ht := noneB_old hB.2 hd
              split at hB
              · rename_i c hc
                have hne : c ≠ b := by simpa using hB.1
                simp only [Region.wanted, hg, yielded, hog, Option.bind_some, hdg, ht, hc]
                simpa using hne
              · cases hB.1
            · rw [if_neg hL, Bool.and_eq_true] at hB
              obtain ⟨e, he, hbe⟩ := Array.any_eq_true'.1 hB.1
              rw [Bool.and_eq_true, beq_iff_eq] at hbe
              have hlg := listed_true (hl e he hbe.1)
              rw [hbe.2] at hlg
              have ht := hd.new g og dg hog (by simpa using hL) hlg hdg
              simp only [Region.wanted, hg, yielded, hog, Option.bind_some, hdg, ht]
              cases hgg : og.guard with
              | none =>
                rw [hgg] at hB
                have hbt : b = true := by simpa using hB.2
                simp [dv, hgg, hbt]
              | some _ => simp [dv, hgg, undef]
      rw [moved, hw, hdv]
      rfl
    | none =>
      have hdv : dv o = .bool false := by simp [dv, hg]
      have hw : Region.wanted o (yielded ops a.tmps) = true := by simp [Region.wanted, hg]
      rw [hg] at hB
      simp only at hB
      rw [moved, if_pos hw, hdv]
      split at hB
      · rename_i s hop
        rw [hop]
        have := falseB_at hB hd hl
        simp [Act.eval, this]
      · rename_i s hop
        rw [hop]
        have := falseB_at hB hd hl
        simp [Act.eval, this]
      · rename_i s x hop
        rw [hop]
        have := falseB_at hB hd hl
        simp [Act.eval, this]
      · cases hB
/-- all that is left of a region is dead: its last slot holds false -/
theorem dead_end {P : Program} {md : Region.Mode} {ops : Array Oper} {Q : Exit → Act → World → Prop} {S : World → Prop} {n : Nat} {L0 : Array Bool} {a0 : Act} {w : World} (dl : List (Option Tmp)) (last d : Nat) (hsz : L0.size = ops.size) (hdl : ops.toList.map (·.dst) = dl) (hnd : dl.Nodup) (hb : deadAllB md ops L0 a0.tmps = true)
    (hn : decide (left ops L0 ≤ n) = true) (hl : ((ops[last]?).map fun o => (o.dst, o.guard.isSome)) = some (some d, false)) (hu : L0.getD last true = false) (hS : S w) (h : ∀ a' : Act, a'.tmps.getD d undef = .bool false → a'.defers = a0.defers → Q .normal a' w) : wpAnyH P md ops Q S n L0 a0 w := by
  refine dead_run (dead_ok dl hsz hdl hnd hb) hS (fun a' hd ha => ?_) n L0 a0 ⟨hsz, rfl, fun _ h => h, fun j o d _ h1 h2 _ => (by rw [h1] at h2; cases h2), fun _ _ => rfl, rfl⟩ (of_decide_eq_true hn)
  obtain ⟨o, ho, he⟩ := Option.map_eq_some_iff.1 hl
  simp only [Prod.mk.injEq] at he
  have := ha last o d ho hu he.1
  refine h a' ?_ hd
  simp only [Array.getD_eq_getD_getElem?, this, Option.getD_some]
  simp [dv, he.2]

section
variable (ops : Array Oper) (L0 : Array Bool) (a0 : Act) (V : Nat → Value)
/-- what is held of a state in mid-region: V j is what operation j leaves -/
structure RunAt (listed : Array Bool) (a : Act) : Prop where
  size : listed.size = ops.size
  defers : a.defers = a0.defers
  more : ∀ j, L0.getD j true = true → listed.getD j true = true
  new : ∀ j o d, ops[j]? = some o → L0.getD j true = false → listed.getD j true = true → o.dst = some d → a.tmps[d]? = some (V j)
  old : ∀ d, (∀ j o, ops[j]? = some o → L0.getD j true = false → o.dst ≠ some d) → a.tmps[d]? = a0.tmps[d]?
  frame : a.tmps.size = a0.tmps.size
/-- what is asked of the operations that are left -/
structure RunOk (P : Program) (md : Region.Mode) (Q : Exit → Act → World → Prop) (S : World → Prop) : Prop where
  size : L0.size = ops.size
  back : ∀ j o, ops[j]? = some o → L0.getD j true = false → ∀ e ∈ o.after, e.on < j
  dst : ∀ j o, ops[j]? = some o → L0.getD j true = false → ∃ d, o.dst = some d ∧ d < a0.tmps.size
  one : ∀ j k o p d, ops[j]? = some o → ops[k]? = some p → L0.getD j true = false → L0.getD k true = false → o.dst = some d → p.dst = some d → j = k
  runs : ∀ j o listed a w, ops[j]? = some o → L0.getD j true = false → RunAt ops L0 a0 V listed a → (∀ e ∈ o.after, Region.binds md e = true → listed.getD e.on false = true) → S w →
    ∀ K : Act → World → Prop, (∀ w', S w' → K (a.put o.dst (V j)) w') → wpOp P ops Q j K a w
end
theorem run_done {ops : Array Oper} {L0 listed : Array Bool} {a0 a : Act} {V : Nat → Value} {md : Region.Mode} (back : ∀ j o, ops[j]? = some o → L0.getD j true = false → ∀ e ∈ o.after, e.on < j) (hd : RunAt ops L0 a0 V listed a) (hr : Region.ready md ops listed = []) : ∀ j, j < ops.size → listed.getD j true = true := by
  intro j
  induction j using Nat.strongRecOn with
  | _ j ih =>
    intro hj
    apply Classical.byContradiction
    intro hn
    have hn' : listed.getD j true = false := by simpa using hn
    have h0 : L0.getD j true = false := by
      cases e : L0.getD j true
      · rfl
      · rw [hd.more j e] at hn'; cases hn'
    obtain ⟨o, ho⟩ : ∃ o, ops[j]? = some o := ⟨ops[j], Array.getElem?_eq_getElem hj⟩
    have hin : j ∈ Region.ready md ops listed := by
      unfold Region.ready
      rw [List.mem_filter]
      refine ⟨List.mem_range.2 hj, ?_⟩
      rw [hn', ho]
      simp only [Bool.not_false, Bool.true_and, Option.map_some, Option.getD_some, Array.all_eq_true_iff_forall_mem]
      intro e he
      have hlt := back j o ho h0 e he
      have hl := ih e.on hlt (by omega)
      have hs := hd.size
      have : listed.getD e.on false = true := by
        simp only [Array.getD, show e.on < listed.size by omega, dif_pos] at hl ⊢
        exact hl
      rw [this]; simp
    rw [hr] at hin
    cases hin
theorem run_region {P : Program} {md : Region.Mode} {ops : Array Oper} {Q : Exit → Act → World → Prop} {S : World → Prop} {L0 : Array Bool} {a0 : Act} {V : Nat → Value} (hk : RunOk ops L0 a0 V P md Q S)
    (hq : ∀ a' w', S w' → a'.defers = a0.defers → (∀ j o d, ops[j]? = some o → L0.getD j true = false → o.dst = some d → a'.tmps[d]? = some (V j)) → Q .normal a' w') :
    ∀ (fuel : Nat) (listed : Array Bool) (a : Act) (w : World), RunAt ops L0 a0 V listed a → S w → left ops listed ≤ fuel → wpAnyH P md ops Q S fuel listed a w := by
  have fin : ∀ listed a w, RunAt ops L0 a0 V listed a → S w → Region.ready md ops listed = [] → Q .normal a w := by
    intro listed a w hd hS hr
    refine hq a w hS hd.defers fun j o d hj h0 ho => hd.new j o d hj h0 ?_ ho
    exact run_done hk.back hd hr j (Array.getElem?_eq_some_iff.1 hj).1
  intro fuel
  induction fuel with
  | zero =>
    intro listed a w hd hS hl
    have hr : Region.ready md ops listed = [] := by
      cases hh : Region.ready md ops listed with
      | nil => rfl
      | cons i r =>
        exfalso
        have hi : i ∈ Region.ready md ops listed := by rw [hh]; simp
        unfold Region.ready at hi
        rw [List.mem_filter] at hi
        have hu : (!listed.getD i true) = true := by
          have := hi.2
          rw [Bool.and_eq_true] at this
          exact this.1
        have : 0 < left ops listed := List.countP_pos_iff.2 ⟨i, hi.1, hu⟩
        omega
    exact ⟨hr, fin listed a w hd hS hr⟩
  | succ fuel ih =>
    intro listed a w hd hS hl
    refine ⟨fin listed a w hd hS, fun i hi => ?_⟩
    unfold Region.ready at hi
    rw [List.mem_filter, Bool.and_eq_true] at hi
    obtain ⟨hir, hu, hall⟩ := hi
    have hisz := List.mem_range.1 hir
    have hu' : listed.getD i true = false := by simpa using hu
    have h0 : L0.getD i true = false := by
      cases e : L0.getD i true
      · rfl
      · rw [hd.more i e] at hu'; cases hu'
    obtain ⟨o, ho⟩ : ∃ o, ops[i]? = some o := ⟨ops[i], Array.getElem?_eq_getElem hisz⟩
    rw [ho] at hall
    simp only [Option.map_some, Option.getD_some, Array.all_eq_true_iff_forall_mem] at hall
    refine hk.runs i o listed a w ho h0 hd (fun e he hb => by
      have := hall e he
      rw [hb] at this
      simpa using this) hS _ (fun w' hS' => ⟨hS', ih _ _ _ ?_ hS' ?_⟩)
    · obtain ⟨d, hdst, hlt⟩ := hk.dst i o ho h0
      have hput : a.put o.dst (V i) = { a with tmps := a.tmps.setIfInBounds d (V i) } := by rw [hdst]; rfl
      have hget : ∀ j, (listed.setIfInBounds i true).getD j true = if j = i then true else listed.getD j true := by
        intro j
        by_cases e : j = i
        · subst e; rw [if_pos rfl]; simp [Array.getD]
        · rw [if_neg e]
          by_cases hj : j < listed.size
          · simp [Array.getD, hj, Ne.symm e]
          · simp [Array.getD, hj]
      rw [hput]
      refine ⟨by simpa using hd.size, hd.defers, ?_, ?_, ?_, by simpa using hd.frame⟩
      · intro j hj
        rw [hget]
        by_cases e : j = i
        · rw [if_pos e]
        · rw [if_neg e]; exact hd.more j hj
      · intro j p d' hj hj0 hl hpd
        rw [hget] at hl
        by_cases e : j = i
        · subst e
          rw [ho] at hj; cases hj
          rw [hdst] at hpd; cases hpd
          rw [Array.getElem?_setIfInBounds_self, if_pos (by rw [hd.frame]; exact hlt)]
        · rw [if_neg e] at hl
          have hne : d ≠ d' := by
            intro e2
            subst e2
            exact e (hk.one j i p o d hj ho hj0 h0 hpd hdst)
          rw [Array.getElem?_setIfInBounds_ne hne]
          exact hd.new j p d' hj hj0 hl hpd
      · intro d' hd'
        have hne : d ≠ d' := by
          intro e2
          subst e2
          exact hd' i o ho h0 hdst
        rw [Array.getElem?_setIfInBounds_ne hne]
        exact hd.old d' hd'
    · have hc := count_less (fun j => !listed.getD j true) i (by simpa using hu') (List.range ops.size) hir
      have e : left ops (listed.setIfInBounds i true) = (List.range ops.size).countP (fun j => !listed.getD j true && j != i) := by
        unfold left
        apply List.countP_congr
        intro j hj
        have hj' := List.mem_range.1 hj
        have hsz := hd.size
        by_cases e : j = i
        · subst e; simp [Array.getD, hsz, hj']
        · simp [Array.getD, hsz, hj', Ne.symm e, e]
      unfold left at hl
      omega
/-- the same region, its operations under another name -/
theorem wp_region_as {P : Program} {Q : Exit → Act → World → Prop} {a : Act} {w : World} {id : Nat} {ops : Array Oper} (ops' : Array Oper) {b : Bool} (e : ops = ops') (h : (Code.region id ops' b).wp P Q a w) : (Code.region id ops b).wp P Q a w := by
  rw [e]; exact h
/-- an operation that yields -/
theorem run_quiet {P : Program} {ops : Array Oper} {Q : Exit → Act → World → Prop} {S : World → Prop} {j : Nat} {o : Oper} {v : Value} {a : Act} {w : World} {K : Act → World → Prop} (hj : ops[j]? = some o) (hy : YieldsIf P ops S o v a) (hS : S w) (hK : ∀ w', S w' → K (a.put o.dst v) w') : wpOp P ops Q j K a w :=
  hy.wpOp hj hS (hK w hS)
/-- an operation that calls -/
theorem run_call {P : Program} {ops : Array Oper} {Q : Exit → Act → World → Prop} {S : World → Prop} {j : Nat} {o : Oper} {v : Value} {a : Act} {w : World} {K : Act → World → Prop} (f : FuncId) (args : Array Value) (hj : ops[j]? = some o) (hw : Region.wanted o (yielded ops a.tmps) = true)
    (he : (execOp a.eval o).run P w = .ok (.enter f args) w) (hc : Calls P f args w fun e w' => e = .returned v ∧ S w') (hK : ∀ w', S w' → K (a.put o.dst v) w') : wpOp P ops Q j K a w := by
  unfold wpOp
  rw [hj]
  simp only [hw, if_true]
  left
  unfold Oper.wp
  rw [he, Oper.upon_enter]
  refine hc.mono ?_
  rintro e w' ⟨rfl, hS⟩
  exact hK w' hS
/-- where a slot's value comes from: an operation ahead -/
theorem RunAt.slot {ops : Array Oper} {L0 listed : Array Bool} {a0 a : Act} {V : Nat → Value} {md : Region.Mode} {o : Oper} (hd : RunAt ops L0 a0 V listed a) (hl : ∀ e ∈ o.after, Region.binds md e = true → listed.getD e.on false = true) (k s : Nat)
    (hk : o.after.any (fun e => Region.binds md e && e.on == k) = true) (h0 : L0.getD k true = false) (hs : ((ops[k]?).bind (·.dst)) = some s) : a.tmps[s]? = some (V k) := by
  obtain ⟨e, he, hb⟩ := Array.any_eq_true'.1 hk
  rw [Bool.and_eq_true, beq_iff_eq] at hb
  have h1 := hl e he hb.1
  rw [hb.2] at h1
  cases hp : ops[k]? with
  | none => rw [hp] at hs; cases hs
  | some p =>
    rw [hp] at hs
    exact hd.new k p s hp h0 (listed_true h1) hs
/-- .. or what was there -/
theorem RunAt.base {ops : Array Oper} {L0 listed : Array Bool} {a0 a : Act} {V : Nat → Value} (hd : RunAt ops L0 a0 V listed a) (s : Nat) (h : noneB ops L0 s = true) : a.tmps[s]? = a0.tmps[s]? := by
  refine hd.old s fun j o hj h0 => ?_
  have hlt := (Array.getElem?_eq_some_iff.1 hj).1
  have := List.all_eq_true.1 h j (List.mem_range.2 hlt)
  rw [h0, hj] at this
  simpa using this

/-- a region of a function, by its number -/
def regionOf (id : Nat) : Code → Option (Array Oper)
  | .region i ops _ => if i = id then some ops else none
  | .seq a b => (regionOf id a).or (regionOf id b)
  | .cond _ a b => (regionOf id a).or (regionOf id b)
  | .block _ a => regionOf id a
  | .loop a => regionOf id a
  | .scope a => regionOf id a
  | _ => none
section
variable {P : Program} {ρ : Operand → Value} {o : Oper} {W : World}
theorem ex_move {x : Operand} (ho : o.op = .move x) {v : Value} (hx : ρ x = v) : (execOp ρ o).run P W = .ok (.value v) W := by simp [execOp, ho, hx]
theorem ex_assign {x : Operand} (ho : o.op = .assign x) {v : Value} (hx : ρ x = v) : (execOp ρ o).run P W = .ok (.value v) W := by simp [execOp, ho, hx]
theorem ex_pick {c x y : Operand} (ho : o.op = .pick c x y) {b : Bool} (hc : ρ c = .bool b) : (execOp ρ o).run P W = .ok (.value (if b = true then ρ x else ρ y)) W := by simp [execOp, ho, hc, asBool]
theorem ex_load {t : TypeId} {x : Operand} (ho : o.op = .load t x) {p v : Value} (hx : ρ x = p) (hr : (Instr.loadAt t p).run P W = .ok v W) : (execOp ρ o).run P W = .ok (.value v) W := by simp [execOp, ho, hx, hr]
theorem ex_bin {op : BinOp} {t u : TypeId} {x y : Operand} (ho : o.op = .binOp op t x y u) {p q v : Value} (hx : ρ x = p) (hy : ρ y = q) (hr : (do eqGuard op t x y p q; binOp op t p q : Sem Value).run P W = .ok v W) : (execOp ρ o).run P W = .ok (.value v) W := by
  have e : execOp ρ o = (do pure (.value (← (do eqGuard op t x y p q; binOp op t p q : Sem Value)))) := by simp only [execOp, ho, hx, hy]
  rw [e, Sem.run_bind, hr]; rfl
theorem ex_un {op : UnOp} {t : TypeId} {x : Operand} (ho : o.op = .unOp op t x) {p v : Value} (hx : ρ x = p) (hr : (Op.unary op p).run P W = .ok v W) : (execOp ρ o).run P W = .ok (.value v) W := by simp [execOp, ho, hx, hr]
end

section
variable {P : Program} {ρ : Operand → Value} {o : Oper} {W : World}
theorem ex_field {t : TypeId} {x : Operand} {f : Nat} (ho : o.op = .fieldAddr t x f) {p v : Value} (hx : ρ x = p) (hr : (Instr.fieldAt t p f).run P W = .ok v W) : (execOp ρ o).run P W = .ok (.value v) W := by simp [execOp, ho, hx, hr]
theorem ex_call1 {f : FuncId} (hf : ∀ args W, (callFunc f args).run P W = .ok (.enter f args) W) {x : Operand} {ts : Array TypeId} (ho : o.op = .call { callee := .value (.func f), args := #[x], argTypes := ts }) {p : Value} (hρ : ρ (.func f) = .func (.func f) #[] #[]) (hx : ρ x = p) : (execOp ρ o).run P W = .ok (.enter f #[p]) W := by
  simp [execOp, ho, resolve, hρ, hx, invoke, go_sem, hf]
theorem ex_call2 {f : FuncId} (hf : ∀ args W, (callFunc f args).run P W = .ok (.enter f args) W) {x y : Operand} {ts : Array TypeId} (ho : o.op = .call { callee := .value (.func f), args := #[x, y], argTypes := ts }) {p q : Value} (hρ : ρ (.func f) = .func (.func f) #[] #[]) (hx : ρ x = p) (hy : ρ y = q) : (execOp ρ o).run P W = .ok (.enter f #[p, q]) W := by
  simp [execOp, ho, resolve, hρ, hx, hy, invoke, go_sem, hf]
theorem ex_is {f : FuncId} (hf : ∀ args W, (callFunc f args).run P W = .ok (.enter f args) W) {t x y z : Operand} {ts : Array TypeId} (ho : o.op = .call { callee := .value t, args := #[x, y, z], argTypes := ts }) {p q r n : Value} (ht : ρ t = .func (.func f) #[] #[n]) (hx : ρ x = p) (hy : ρ y = q) (hz : ρ z = r) : (execOp ρ o).run P W = .ok (.enter f #[p, q, r, n]) W := by
  simp [execOp, ho, resolve, ht, hx, hy, hz, invoke, go_sem, hf]
theorem ex_len {x : Operand} {ts : Array TypeId} (ho : o.op = .call { callee := .builtin .len, args := #[x], argTypes := ts }) {a : Option Addr} {n c : Nat} (hl : ∀ ty, (Builtin.len_ ts ty #[.slice a n c]).run P W = .ok (.int .i64 (n : Int)) W) (hx : ρ x = .slice a n c) : (execOp ρ o).run P W = .ok (.value (.int .i64 (n : Int))) W := by
  simp [execOp, ho, resolve, hx, invoke, go_sem, hl]
end
theorem eval_tmp {a : Act} {s : Nat} {v : Value} (h : a.tmps[s]? = some v) : a.eval (.tmp s) = v := by simp [Act.eval, h]
theorem wanted_none {o : Oper} {y : Nat → Option Bool} (h : o.guard = none) : Region.wanted o y = true := by simp [Region.wanted, h]
theorem wanted_some {o : Oper} {ops : Array Oper} {tm : Array Value} {g d : Nat} {b c : Bool} (h : o.guard = some (g, b)) (hd : (ops[g]?).bind (·.dst) = some d) (ht : tm[d]? = some (.bool c)) : Region.wanted o (yielded ops tm) = (c == b) := by
  simp only [Region.wanted, h, yielded, hd, Option.bind_some, ht]
  cases c <;> cases b <;> rfl
theorem wanted_undef {o : Oper} {ops : Array Oper} {tm : Array Value} {g d : Nat} {b : Bool} (h : o.guard = some (g, b)) (hd : (ops[g]?).bind (·.dst) = some d) (ht : tm[d]? = some undef) : Region.wanted o (yielded ops tm) = false := by
  simp only [Region.wanted, h, yielded, hd, Option.bind_some, ht, undef]
  cases b <;> rfl

theorem run_whole {P : Program} {md : Region.Mode} {ops : Array Oper} {Q : Exit → Act → World → Prop} {S : World → Prop} {L0 : Array Bool} {a0 : Act} {V : Nat → Value} (hk : RunOk ops L0 a0 V P md Q S)
    (hq : ∀ listed a' w', S w' → RunAt ops L0 a0 V listed a' → (∀ j, j < ops.size → listed.getD j true = true) → Q .normal a' w') :
    ∀ (fuel : Nat) (listed : Array Bool) (a : Act) (w : World), RunAt ops L0 a0 V listed a → S w → left ops listed ≤ fuel → wpAnyH P md ops Q S fuel listed a w := by
  have fin : ∀ listed a w, RunAt ops L0 a0 V listed a → S w → Region.ready md ops listed = [] → Q .normal a w := by
    intro listed a w hd hS hr
    exact hq listed a w hS hd (run_done hk.back hd hr)
  intro fuel
  induction fuel with
  | zero =>
    intro listed a w hd hS hl
    have hr : Region.ready md ops listed = [] := by
      cases hh : Region.ready md ops listed with
      | nil => rfl
      | cons i r =>
        exfalso
        have hi : i ∈ Region.ready md ops listed := by rw [hh]; simp
        unfold Region.ready at hi
        rw [List.mem_filter] at hi
        have hu : (!listed.getD i true) = true := by
          have := hi.2
          rw [Bool.and_eq_true] at this
          exact this.1
        have : 0 < left ops listed := List.countP_pos_iff.2 ⟨i, hi.1, hu⟩
        omega
    exact ⟨hr, fin listed a w hd hS hr⟩
  | succ fuel ih =>
    intro listed a w hd hS hl
    refine ⟨fin listed a w hd hS, fun i hi => ?_⟩
    unfold Region.ready at hi
    rw [List.mem_filter, Bool.and_eq_true] at hi
    obtain ⟨hir, hu, hall⟩ := hi
    have hisz := List.mem_range.1 hir
    have hu' : listed.getD i true = false := by simpa using hu
    have h0 : L0.getD i true = false := by
      cases e : L0.getD i true
      · rfl
      · rw [hd.more i e] at hu'; cases hu'
    obtain ⟨o, ho⟩ : ∃ o, ops[i]? = some o := ⟨ops[i], Array.getElem?_eq_getElem hisz⟩
    rw [ho] at hall
    simp only [Option.map_some, Option.getD_some, Array.all_eq_true_iff_forall_mem] at hall
    refine hk.runs i o listed a w ho h0 hd (fun e he hb => by
      have := hall e he
      rw [hb] at this
      simpa using this) hS _ (fun w' hS' => ⟨hS', ih _ _ _ ?_ hS' ?_⟩)
    · obtain ⟨d, hdst, hlt⟩ := hk.dst i o ho h0
      have hput : a.put o.dst (V i) = { a with tmps := a.tmps.setIfInBounds d (V i) } := by rw [hdst]; rfl
      have hget : ∀ j, (listed.setIfInBounds i true).getD j true = if j = i then true else listed.getD j true := by
        intro j
        by_cases e : j = i
        · subst e; rw [if_pos rfl]; simp [Array.getD]
        · rw [if_neg e]
          by_cases hj : j < listed.size
          · simp [Array.getD, hj, Ne.symm e]
          · simp [Array.getD, hj]
      rw [hput]
      refine ⟨by simpa using hd.size, hd.defers, ?_, ?_, ?_, by simpa using hd.frame⟩
      · intro j hj
        rw [hget]
        by_cases e : j = i
        · rw [if_pos e]
        · rw [if_neg e]; exact hd.more j hj
      · intro j p d' hj hj0 hl hpd
        rw [hget] at hl
        by_cases e : j = i
        · subst e
          rw [ho] at hj; cases hj
          rw [hdst] at hpd; cases hpd
          rw [Array.getElem?_setIfInBounds_self, if_pos (by rw [hd.frame]; exact hlt)]
        · rw [if_neg e] at hl
          have hne : d ≠ d' := by
            intro e2
            subst e2
            exact e (hk.one j i p o d hj ho hj0 h0 hpd hdst)
          rw [Array.getElem?_setIfInBounds_ne hne]
          exact hd.new j p d' hj hj0 hl hpd
      · intro d' hd'
        have hne : d ≠ d' := by
          intro e2
          subst e2
          exact hd' i o ho h0 hdst
        rw [Array.getElem?_setIfInBounds_ne hne]
        exact hd.old d' hd'
    · have hc := count_less (fun j => !listed.getD j true) i (by simpa using hu') (List.range ops.size) hir
      have e : left ops (listed.setIfInBounds i true) = (List.range ops.size).countP (fun j => !listed.getD j true && j != i) := by
        unfold left
        apply List.countP_congr
        intro j hj
        have hj' := List.mem_range.1 hj
        have hsz := hd.size
        by_cases e : j = i
        · subst e; simp [Array.getD, hsz, hj']
        · simp [Array.getD, hsz, hj', Ne.symm e, e]
      unfold left at hl
      omega
/-- a value that is there where a guard lets it be -/
def gw (p : Bool) (v : Value) : Value := if p = true then v else undef
theorem gw_of {p : Bool} {v : Value} (h : p = true) : gw p v = v := by rw [gw, if_pos h]
theorem gw_no {p : Bool} {v : Value} (h : p = false) : gw p v = undef := by rw [gw, h]; rfl
theorem and_l {a b : Bool} (h : (a && b) = true) : a = true := by cases a <;> simp_all
theorem and_r {a b : Bool} (h : (a && b) = true) : b = true := by cases a <;> simp_all
/-- guards: of a value that itself may be missing -/
theorem wanted_gw {o : Oper} {ops : Array Oper} {tm : Array Value} {g d : Nat} {b G c : Bool} (h : o.guard = some (g, b)) (hd : (ops[g]?).bind (·.dst) = some d) (ht : tm[d]? = some (gw G (.bool c))) : Region.wanted o (yielded ops tm) = (G && (c == b)) := by
  cases G with
  | true =>
    rw [gw_of rfl] at ht
    simp only [Region.wanted, h, yielded, hd, Option.bind_some, ht]
    cases c <;> cases b <;> rfl
  | false =>
    rw [gw_no rfl] at ht
    simp only [Region.wanted, h, yielded, hd, Option.bind_some, ht, undef]
    cases b <;> rfl
theorem wanted_b {o : Oper} {ops : Array Oper} {tm : Array Value} {g d : Nat} {b c : Bool} (h : o.guard = some (g, b)) (hd : (ops[g]?).bind (·.dst) = some d) (ht : tm[d]? = some (.bool c)) : Region.wanted o (yielded ops tm) = (c == b) := by
  simp only [Region.wanted, h, yielded, hd, Option.bind_some, ht]
  cases c <;> cases b <;> rfl
theorem pick_and {G c x : Bool} (h : G = true) : (if c = true then gw (G && (c == true)) (.bool x) else .bool false) = (.bool (c && x) : Value) := by
  subst h; cases c <;> cases x <;> rfl
theorem pick_or {G c x : Bool} (h : G = true) : (if c = true then (.bool true : Value) else gw (G && (c == false)) (.bool x)) = .bool (c || x) := by
  subst h; cases c <;> cases x <;> rfl
theorem pick_and0 {c x : Bool} : (if c = true then gw (c == true) (.bool x) else .bool false) = (.bool (c && x) : Value) := by cases c <;> cases x <;> rfl
theorem pick_or0 {c x : Bool} : (if c = true then (.bool true : Value) else gw (c == false) (.bool x)) = .bool (c || x) := by cases c <;> cases x <;> rfl
/-- what is asked of an operation -/
def ObR (P : Program) (R : Array Oper) (n : Nat) (a0 : Act) (V : Nat → Value) (Q : Exit → Act → World → Prop) (S : World → Prop) (j : Nat) : Prop :=
  ∀ o listed a W, R[j]? = some o → RunAt R (Array.replicate n false) a0 V listed a → (∀ e ∈ o.after, Region.binds .any e = true → listed.getD e.on false = true) → S W →
    ∀ K : Act → World → Prop, (∀ w', S w' → K (a.put o.dst (V j)) w') → wpOp P R Q j K a W
theorem upto_succ {p : Nat → Prop} {n : Nat} (h : ∀ j, j < n → p j) (hn : p n) : ∀ j, j < n + 1 → p j := fun j hj => by
  by_cases e : j = n
  · exact e ▸ hn
  · exact h j (by omega)
def backR (ops : Array Oper) (n : Nat) : Bool := (List.range ops.size).all fun j => match ops[j]? with
  | some o => o.after.all (fun e => decide (e.on < j)) && (match o.dst with | some d => decide (d < n) | none => false)
  | none => true
theorem run_ok_of {P : Program} {R : Array Oper} {n m : Nat} {dls : List (Option Tmp)} {a0 : Act} {V : Nat → Value} {Q : Exit → Act → World → Prop} {S : World → Prop} (hsz : R.size = n) (hb : backR R m = true) (hdl : R.toList.map (·.dst) = dls) (hnd : dls.Nodup) (ha : a0.tmps.size = m)
    (hob : ∀ j, j < n → ObR P R n a0 V Q S j) : RunOk R (Array.replicate n false) a0 V P .any Q S := by
  have each : ∀ (j : Nat) (o : Oper), R[j]? = some o → o.after.all (fun e => decide (e.on < j)) = true ∧ (match o.dst with | some d => decide (d < m) | none => false) = true := by
    intro j o hj
    have hlt := (Array.getElem?_eq_some_iff.1 hj).1
    have := List.all_eq_true.1 hb j (List.mem_range.2 hlt)
    rw [hj] at this
    simpa only [Bool.and_eq_true] using this
  refine ⟨by rw [hsz]; simp, ?_, ?_, ?_, ?_⟩
  · intro j o hj _ e he
    have := Array.all_eq_true_iff_forall_mem.1 (each j o hj).1 e he
    simpa using this
  · intro j o hj _
    have := (each j o hj).2
    cases hd : o.dst with
    | none => rw [hd] at this; cases this
    | some d => rw [hd] at this; exact ⟨d, rfl, by rw [ha]; simpa using this⟩
  · intro j k o p d hj hk _ _ hod hpd
    have at' : ∀ (i : Nat) (q : Oper), R[i]? = some q → dls[i]? = some q.dst := by
      intro i q hq
      rw [← hdl, List.getElem?_map, Array.getElem?_toList, hq]; rfl
    have e1 := at' j o hj
    have e2 := at' k p hk
    rw [hod] at e1
    rw [hpd] at e2
    exact (List.getElem?_inj (List.getElem?_eq_some_iff.1 e1).1 hnd).1 (e1.trans e2.symm)
  · intro j o listed a W hj _ hd hl hS K hK
    have hlt := (Array.getElem?_eq_some_iff.1 hj).1
    rw [hsz] at hlt
    exact hob j hlt o listed a W hj hd hl hS K hK
/-- slots, one after another -/
def putL (T : List Value) : List (Option Tmp × Value) → List Value
  | [] => T
  | (some d, v) :: r => putL (T.set d v) r
  | (none, _) :: r => putL T r
theorem putL_length : ∀ (ps : List (Option Tmp × Value)) (T : List Value), (putL T ps).length = T.length := by
  intro ps
  induction ps with
  | nil => intro T; rfl
  | cons p r ih =>
    obtain ⟨d, v⟩ := p
    intro T
    cases d with
    | none => exact ih T
    | some d => rw [putL, ih]; simp
theorem putL_old : ∀ (ps : List (Option Tmp × Value)) (T : List Value) (d : Nat), (∀ p ∈ ps, p.1 ≠ some d) → (putL T ps)[d]? = T[d]? := by
  intro ps
  induction ps with
  | nil => intro T d _; rfl
  | cons p r ih =>
    obtain ⟨e, v⟩ := p
    intro T d h
    cases e with
    | none => exact ih T d fun q hq => h q (List.mem_cons_of_mem _ hq)
    | some e =>
      rw [putL, ih _ d fun q hq => h q (List.mem_cons_of_mem _ hq)]
      have : e ≠ d := fun h2 => h (some e, v) List.mem_cons_self (by rw [h2])
      rw [List.getElem?_set_ne this]
theorem putL_new : ∀ (ps : List (Option Tmp × Value)) (T : List Value) (d : Nat) (v : Value), (ps.map (·.1)).Nodup → (some d, v) ∈ ps → d < T.length → (putL T ps)[d]? = some v := by
  intro ps
  induction ps with
  | nil => intro T d v _ h; cases h
  | cons p r ih =>
    obtain ⟨e, u⟩ := p
    intro T d v hn hm hd
    rw [List.map_cons, List.nodup_cons] at hn
    rcases List.mem_cons.1 hm with h | h
    · cases h
      rw [putL, putL_old]
      · rw [List.getElem?_set_self hd]
      · intro q hq hq2
        exact hn.1 (List.mem_map.2 ⟨q, hq, hq2⟩)
    · cases e with
      | none => exact ih T d v hn.2 h hd
      | some e => rw [putL]; exact ih _ d v hn.2 h (by simpa using hd)
/-- the whole frame behind such a region -/
theorem run_frame {R : Array Oper} {n : Nat} {dls : List (Option Tmp)} {a0 a' : Act} {V : Nat → Value} {listed : Array Bool} (hsz : R.size = n) (hdl : R.toList.map (·.dst) = dls) (hnd : dls.Nodup) (hlt : ∀ d, some d ∈ dls → d < a0.tmps.size)
    (hd : RunAt R (Array.replicate n false) a0 V listed a') (hall : ∀ j, j < R.size → listed.getD j true = true) : a' = { tmps := (putL a0.tmps.toList (dls.zip ((List.range n).map V))).toArray, defers := a0.defers } := by
  have hdn : dls.length = n := by rw [← hdl]; simp [hsz]
  have hfst : (dls.zip ((List.range n).map V)).map (·.1) = dls := by
    rw [List.map_fst_zip]; simp [hdn]
  have h0 : ∀ j, j < n → (Array.replicate n false).getD j true = false := by intro j hj; simp [Array.getD, hj]
  have ht : a'.tmps = (putL a0.tmps.toList (dls.zip ((List.range n).map V))).toArray := by
    apply Array.ext_getElem?
    intro i
    suffices h : a'.tmps[i]? = (putL a0.tmps.toList (dls.zip ((List.range n).map V)))[i]? by rw [h]; simp
    by_cases hi : some i ∈ dls
    · obtain ⟨j, hj⟩ := List.getElem?_of_mem hi
      have hjn : j < n := by have := (List.getElem?_eq_some_iff.1 hj).1; omega
      have hjo : ∃ o, R[j]? = some o := ⟨R[j], Array.getElem?_eq_getElem (by omega)⟩
      obtain ⟨o, ho⟩ := hjo
      have hod : o.dst = some i := by
        have : dls[j]? = some o.dst := by rw [← hdl, List.getElem?_map, Array.getElem?_toList, ho]; rfl
        rw [hj] at this
        exact (Option.some.inj this).symm
      rw [hd.new j o i ho (h0 j hjn) (hall j (by omega)) hod]
      refine (putL_new _ _ i (V j) (by rw [hfst]; exact hnd) ?_ (by simpa using hlt i hi)).symm
      refine List.mem_of_getElem? (i := j) ?_
      rw [List.getElem?_zip_eq_some]
      exact ⟨hj, by simp [hjn]⟩
    · rw [hd.old i (fun j o hj _ hod => hi ?_), putL_old]
      · rw [Array.getElem?_toList]
      · intro p hp hpi
        exact hi (hfst ▸ List.mem_map.2 ⟨p, hp, hpi⟩)
      · have : dls[j]? = some o.dst := by rw [← hdl, List.getElem?_map, Array.getElem?_toList, hj]; rfl
        rw [hod] at this
        exact List.mem_of_getElem? this
  cases a'
  simp only [Act.mk.injEq]
  exact ⟨ht, hd.defers⟩
/-- such a region, whole -/
theorem wp_run {P : Program} {R : Array Oper} {n m : Nat} {dls : List (Option Tmp)} {a0 : Act} {V : Nat → Value} {Q : Exit → Act → World → Prop} {S : World → Prop} {id : Nat} {w : World} (hm : P.follows .mixedOrders = true) (hsz : R.size = n) (hb : backR R m = true) (hdl : R.toList.map (·.dst) = dls) (hnd : dls.Nodup) (ha : a0.tmps.size = m)
    (hob : ∀ j, j < n → ObR P R n a0 V Q S j) (hS : S w.drew)
    (hq : ∀ w', S w' → Q .normal { tmps := (putL a0.tmps.toList (dls.zip ((List.range n).map V))).toArray, defers := a0.defers } w') : (Code.region id R true).wp P Q a0 w := by
  have hlt : ∀ d, some d ∈ dls → d < a0.tmps.size := by
    intro d hd
    obtain ⟨j, hj⟩ := List.getElem?_of_mem hd
    have hk := run_ok_of hsz hb hdl hnd ha hob
    have hjn : j < R.size := by have := (List.getElem?_eq_some_iff.1 hj).1; rw [← hdl] at this; simpa using this
    have ho : R[j]? = some R[j] := Array.getElem?_eq_getElem hjn
    obtain ⟨d', h1, h2⟩ := hk.dst j _ ho (by simp [Array.getD]; omega)
    have : dls[j]? = some (R[j]).dst := by rw [← hdl, List.getElem?_map, Array.getElem?_toList, ho]; rfl
    rw [hj, h1] at this
    cases this
    exact h2
  refine wp_region_held_drew (S := S) hm hS (fun hHeld => ?_)
  rw [hsz]
  refine run_whole (V := V) (run_ok_of hsz hb hdl hnd ha hob) ?_ _ _ _ _ ⟨by rw [hsz]; simp, rfl, fun _ h => h, fun j o d _ h1 h2 _ => (by rw [h1] at h2; cases h2), fun _ _ => rfl, rfl⟩ hHeld ?_
  · intro listed a' w' hS' hd hall
    rw [run_frame hsz hdl hnd hlt hd hall]
    exact hq w' hS'
  · unfold left
    rw [hsz]
    exact Nat.le_trans List.countP_le_length (by simp)
theorem frame_at {T : List Value} {dls : List (Option Tmp)} {n : Nat} {V : Nat → Value} (hnd : dls.Nodup) (hl : dls.length = n) (j d : Nat) (hj : dls[j]? = some (some d)) (hd : d < T.length) : (putL T (dls.zip ((List.range n).map V)))[d]? = some (V j) := by
  have hfst : (dls.zip ((List.range n).map V)).map (·.1) = dls := by
    rw [List.map_fst_zip]; simp [hl]
  have hjn : j < n := by have := (List.getElem?_eq_some_iff.1 hj).1; omega
  refine putL_new _ _ d (V j) (by rw [hfst]; exact hnd) ?_ hd
  refine List.mem_of_getElem? (i := j) ?_
  rw [List.getElem?_zip_eq_some]
  exact ⟨hj, by simp [hjn]⟩
/-- what a function gives that ends behind such a region -/
theorem post_frame {P : Program} {fn : Func} {R : Ending → World → Prop} {T : List Value} {dls : List (Option Tmp)} {n : Nat} {V : Nat → Value} {w : World} {s : Nat} (j : Nat) (hres : fn.results = #[.tmp s]) (hnd : dls.Nodup) (hl : dls.length = n) (hj : dls[j]? = some (some s)) (hs : s < T.length) (h : R (.returned (V j)) w) :
    bodyPost P fn R .ret { tmps := (putL T (dls.zip ((List.range n).map V))).toArray, defers := [] } w := by
  refine bodyPost_ret (results_tmp hres _ _ _) rfl ?_
  have e : (putL T (dls.zip ((List.range n).map V))).toArray.getD s undef = V j := by
    rw [Array.getD_eq_getD_getElem?]
    have := frame_at (T := T) (V := V) hnd hl j s hj hs
    simp only [List.getElem?_toArray, this, Option.getD_some]
  show R (.returned ((putL T (dls.zip ((List.range n).map V))).toArray.getD s undef)) w
  rw [e]; exact h
theorem ex_call3 {P : Program} {ρ : Operand → Value} {o : Oper} {W : World} {f : FuncId} (hf : ∀ args W, (callFunc f args).run P W = .ok (.enter f args) W) {x y z : Operand} {ts : Array TypeId} (ho : o.op = .call { callee := .value (.func f), args := #[x, y, z], argTypes := ts }) {p q r : Value} (hρ : ρ (.func f) = .func (.func f) #[] #[]) (hx : ρ x = p) (hy : ρ y = q) (hz : ρ z = r) : (execOp ρ o).run P W = .ok (.enter f #[p, q, r]) W := by
  simp [execOp, ho, resolve, hρ, hx, hy, hz, invoke, go_sem, hf]

/-- a slot that none of the first operations writes -/
def noneTo (R : Array Oper) (j d : Nat) : Bool := (List.range j).all fun i => match R[i]? with | some o => o.dst != some d | none => true
/-- what is asked of one operation, where all ahead of it have been -/
def ObP (P : Program) (R : Array Oper) (n : Nat) (a0 : Act) (V : Nat → Value) (Q : Exit → Act → World → Prop) (S : World → Prop) (j : Nat) : Prop :=
  ∀ o listed a W, R[j]? = some o → RunAt R (Array.replicate n false) a0 V listed a → (∀ i, i < j → listed.getD i true = true) → (∀ d, noneTo R j d = true → a.tmps[d]? = a0.tmps[d]?) → S W →
    ∀ K : Act → World → Prop, (∀ w', S w' → K (a.put o.dst (V j)) w') → wpOp P R Q j K a W
theorem slotP {R : Array Oper} {n : Nat} {a0 a : Act} {V : Nat → Value} {listed : Array Bool} {j : Nat} (hd : RunAt R (Array.replicate n false) a0 V listed a) (hl : ∀ i, i < j → listed.getD i true = true) (k s : Nat)
    (hk : k < j) (h0 : (Array.replicate n false).getD k true = false) (hs : ((R[k]?).bind (·.dst)) = some s) : a.tmps[s]? = some (V k) := by
  cases hp : R[k]? with
  | none => rw [hp] at hs; cases hs
  | some p =>
    rw [hp] at hs
    exact hd.new k p s hp h0 (hl k hk) hs
theorem set_getD (listed : Array Bool) (i j : Nat) : (listed.setIfInBounds i true).getD j true = if j = i then true else listed.getD j true := by
  by_cases e : j = i
  · subst e; rw [if_pos rfl]; simp [Array.getD]
  · rw [if_neg e]
    by_cases hj : j < listed.size
    · simp [Array.getD, hj, Ne.symm e]
    · simp [Array.getD, hj]
theorem runAt_put {R : Array Oper} {L0 listed : Array Bool} {a0 a : Act} {V : Nat → Value} {i d : Nat} {o : Oper} (hd : RunAt R L0 a0 V listed a) (ho : R[i]? = some o) (h0 : L0.getD i true = false) (hdst : o.dst = some d) (hlt : d < a0.tmps.size)
    (one : ∀ j p, R[j]? = some p → L0.getD j true = false → p.dst = some d → j = i) : RunAt R L0 a0 V (listed.setIfInBounds i true) (a.put o.dst (V i)) := by
  have hput : a.put o.dst (V i) = { a with tmps := a.tmps.setIfInBounds d (V i) } := by rw [hdst]; rfl
  have hget := set_getD listed i
  rw [hput]
  refine ⟨by simpa using hd.size, hd.defers, ?_, ?_, ?_, by simpa using hd.frame⟩
  · intro j hj
    rw [hget]
    by_cases e : j = i
    · rw [if_pos e]
    · rw [if_neg e]; exact hd.more j hj
  · intro j p d' hj hj0 hl hpd
    rw [hget] at hl
    by_cases e : j = i
    · subst e
      rw [ho] at hj; cases hj
      rw [hdst] at hpd; cases hpd
      rw [Array.getElem?_setIfInBounds_self, if_pos (by rw [hd.frame]; exact hlt)]
    · rw [if_neg e] at hl
      have hne : d ≠ d' := by
        intro e2
        subst e2
        exact e (one j p hj hj0 hpd)
      rw [Array.getElem?_setIfInBounds_ne hne]
      exact hd.new j p d' hj hj0 hl hpd
  · intro d' hd'
    have hne : d ≠ d' := by
      intro e2
      subst e2
      exact hd' i o ho h0 hdst
    rw [Array.getElem?_setIfInBounds_ne hne]
    exact hd.old d' hd'
/-- such a region, whole: the frame behind it by its slots -/
theorem wp_plainO {P : Program} {R : Array Oper} {n m : Nat} {dls : List (Option Tmp)} {a0 : Act} {V : Nat → Value} {Q : Exit → Act → World → Prop} {S : World → Prop} {w : World} (hsz : R.size = n) (hdl : R.toList.map (·.dst) = dls) (hnd : dls.Nodup)
    (hin : dls.all (fun d => match d with | some d => decide (d < m) | none => false) = true) (ha : a0.tmps.size = m) (hob : ∀ j, j < n → ObP P R n a0 V Q S j) (hS : S w)
    (hq : ∀ a' w', S w' → a'.defers = a0.defers → a'.tmps.size = m → (∀ j d, dls[j]? = some (some d) → a'.tmps[d]? = some (V j)) → (∀ d, some d ∉ dls → a'.tmps[d]? = a0.tmps[d]?) → Q .normal a' w') : wpOps P R Q (List.range R.size) a0 w := by
  have at' : ∀ (i : Nat) (q : Oper), R[i]? = some q → dls[i]? = some q.dst := by
    intro i q hq
    rw [← hdl, List.getElem?_map, Array.getElem?_toList, hq]; rfl
  have h0 : ∀ j, j < n → (Array.replicate n false).getD j true = false := by intro j hj; simp [Array.getD, hj]
  have go : ∀ k, k ≤ n → ∀ listed a W, RunAt R (Array.replicate n false) a0 V listed a → (∀ i, i < n - k → listed.getD i true = true) → (∀ d, noneTo R (n - k) d = true → a.tmps[d]? = a0.tmps[d]?) → S W → wpOps P R Q (List.range' (n - k) k) a W := by
    intro k
    induction k with
    | zero =>
      intro _ listed a W hd hl _ hW
      refine hq a W hW hd.defers (hd.frame.trans ha) ?_ ?_
      · intro j d hj
        have hjn : j < n := by have := (List.getElem?_eq_some_iff.1 hj).1; rw [← hdl] at this; simp [hsz] at this; exact this
        obtain ⟨o, ho⟩ : ∃ o, R[j]? = some o := ⟨R[j]'(by omega), Array.getElem?_eq_getElem (by omega)⟩
        have e1 := at' j o ho
        rw [hj] at e1
        exact hd.new j o d ho (h0 j hjn) (hl j (by omega)) (Option.some.inj e1).symm
      · intro d hd'
        refine hd.old d fun j o hj _ hod => hd' ?_
        have e1 := at' j o hj
        rw [hod] at e1
        exact List.mem_of_getElem? e1
    | succ k ih =>
      intro hk listed a W hd hl hb hW
      have hjn : n - (k + 1) < n := by omega
      obtain ⟨o, ho⟩ : ∃ o, R[n - (k + 1)]? = some o := ⟨R[n - (k + 1)]'(by omega), Array.getElem?_eq_getElem (by omega)⟩
      rw [List.range'_succ, wpOps_cons]
      have e1 := at' _ o ho
      obtain ⟨d, hdst, hlt⟩ : ∃ d, o.dst = some d ∧ d < m := by
        have := List.all_eq_true.1 hin _ (List.mem_of_getElem? e1)
        cases hod : o.dst with
        | none => rw [hod] at this; cases this
        | some d => rw [hod] at this; exact ⟨d, rfl, by simpa using this⟩
      refine hob _ hjn o listed a W ho hd hl hb hW _ fun w' hw' => ?_
      have e2 : n - (k + 1) + 1 = n - k := by omega
      rw [e2]
      refine ih (by omega) _ _ w' (runAt_put hd ho (h0 _ hjn) hdst (by rw [ha]; exact hlt) ?_) ?_ ?_ hw'
      · intro j p hj _ hpd
        have e3 := at' j p hj
        rw [hpd] at e3
        rw [hdst] at e1
        exact (List.getElem?_inj (List.getElem?_eq_some_iff.1 e3).1 hnd).1 (e3.trans e1.symm)
      · intro i hi
        rw [set_getD]
        by_cases e : i = n - (k + 1)
        · rw [if_pos e]
        · rw [if_neg e]; exact hl i (by omega)
      · intro d' hd'
        unfold noneTo at hd'
        rw [← e2, List.range_succ, List.all_append, Bool.and_eq_true] at hd'
        have h5 : d ≠ d' := by
          intro e5
          have := hd'.2
          rw [List.all_cons, Bool.and_eq_true, ho] at this
          simp [hdst, e5] at this
        have hput : (a.put o.dst (V (n - (k + 1)))).tmps = a.tmps.setIfInBounds d (V (n - (k + 1))) := by rw [hdst]; rfl
        rw [hput, Array.getElem?_setIfInBounds_ne h5]
        exact hb d' hd'.1
  rw [hsz, List.range_eq_range']
  have := go n (Nat.le_refl n) (Array.replicate n false) a0 w ⟨by simp [hsz], rfl, fun _ h => h, fun j o d hj h1 h2 _ => (by rw [h1] at h2; cases h2), fun _ _ => rfl, rfl⟩ (fun i hi => by omega) (fun _ _ => rfl) hS
  rw [Nat.sub_self] at this
  exact this
theorem wp_plain {P : Program} {R : Array Oper} {n m : Nat} {dls : List (Option Tmp)} {a0 : Act} {V : Nat → Value} {Q : Exit → Act → World → Prop} {S : World → Prop} {id : Nat} {w : World} (hsz : R.size = n) (hdl : R.toList.map (·.dst) = dls) (hnd : dls.Nodup)
    (hin : dls.all (fun d => match d with | some d => decide (d < m) | none => false) = true) (ha : a0.tmps.size = m) (hob : ∀ j, j < n → ObP P R n a0 V Q S j) (hS : S w)
    (hq : ∀ a' w', S w' → a'.defers = a0.defers → a'.tmps.size = m → (∀ j d, dls[j]? = some (some d) → a'.tmps[d]? = some (V j)) → (∀ d, some d ∉ dls → a'.tmps[d]? = a0.tmps[d]?) → Q .normal a' w') : (Code.region id R false).wp P Q a0 w :=
  wp_region (wp_plainO hsz hdl hnd hin ha hob hS hq)
theorem list_as {P : Program} {Q : Exit → Act → World → Prop} {a : Act} {w : World} (R : Array Oper) {ops : Array Oper} {l : List Oper} (e : ops = R) (hl : l = R.toList) (h : wpOps P R Q (List.range R.size) a w) : wpList P ops Q l a w := by
  subst e
  subst hl
  have h1 := wpOps_eq_wpList (P := P) (ops := ops) (Q := Q) ops.toList 0 (by intro j; simp)
  rw [← h1]
  simpa [List.range_eq_range'] using h
theorem ex_index {P : Program} {ρ : Operand → Value} {o : Oper} {W : World} {t : TypeId} {x y : Operand} (ho : o.op = .indexAddr t x y) {p q v : Value} (hx : ρ x = p) (hy : ρ y = q) (hr : (Instr.indexAt t p q).run P W = .ok v W) : (execOp ρ o).run P W = .ok (.value v) W := by simp [execOp, ho, hx, hy, hr]

def oAt (R : Array Oper) (j : Nat) : Oper := (R[j]?).getD ⟨none, .move (.const undef), 0, "", #[], none⟩
theorem oAt_eq {R : Array Oper} {j n : Nat} (hz : R.size = n) (hj : j < n) : R[j]? = some (oAt R j) := by
  rw [oAt, Array.getElem?_eq_getElem (by omega : j < R.size)]; rfl
def slO (R : Array Oper) (D : Nat → Bool) (k t : Nat) : Bool := D k && ((R[k]?).bind (·.dst) == some t)
theorem slO_of {R : Array Oper} {D : Nat → Bool} {k t : Nat} (h : slO R D k t = true) : D k = true ∧ ((R[k]?).bind (·.dst)) = some t := by
  rw [slO, Bool.and_eq_true] at h
  exact ⟨h.1, by simpa using h.2⟩
def gdO (R : Array Oper) (o : Oper) (D : Nat → Bool) (g : Nat) (b : Bool) (d : Nat) : Bool := (o.guard == some (g, b)) && slO R D g d
theorem gdO_of {R : Array Oper} {o : Oper} {D : Nat → Bool} {g d : Nat} {b : Bool} (h : gdO R o D g b d = true) : o.guard = some (g, b) ∧ slO R D g d = true := by
  rw [gdO, Bool.and_eq_true] at h
  exact ⟨by simpa using h.1, h.2⟩
theorem us {p : Nat → Prop} {n : Nat} (h : ∀ j, j < n → p j) (hn : p n) : ∀ j, j < n + 1 → p j := upto_succ h hn
/-- what the slots hold, as far as an operation may look -/
structure Sl (R : Array Oper) (a0 : Act) (V : Nat → Value) (D N : Nat → Bool) (a : Act) : Prop where
  at' : ∀ k s, D k = true → ((R[k]?).bind (·.dst)) = some s → a.tmps[s]? = some (V k)
  base : ∀ d, N d = true → a.tmps[d]? = a0.tmps[d]?
def depP (j : Nat) (k : Nat) : Bool := decide (k < j)
def depR (o : Oper) (n : Nat) (k : Nat) : Bool := decide (k < n) && o.after.any (fun e => Region.binds .any e && e.on == k)
def Core (P : Program) (R : Array Oper) (a0 : Act) (V : Nat → Value) (Q : Exit → Act → World → Prop) (S : World → Prop) (j : Nat) (o : Oper) (D N : Nat → Bool) : Prop :=
  ∀ a W, Sl R a0 V D N a → S W → ∀ K : Act → World → Prop, (∀ w', S w' → K (a.put o.dst (V j)) w') → wpOp P R Q j K a W
section
variable {P : Program} {R : Array Oper} {a0 a : Act} {V : Nat → Value} {Q : Exit → Act → World → Prop} {S : World → Prop} {j n : Nat} {o : Oper} {D N : Nat → Bool}
theorem obP (eo : R[j]? = some o) (hj : j < n) (h : Core P R a0 V Q S j o (depP j) (noneTo R j)) : ObP P R n a0 V Q S j := by
  intro o' listed a W ho hd hl hb hS K hK
  obtain rfl : o' = o := Option.some.inj (ho.symm.trans eo)
  refine h a W ⟨fun k s hk hs => ?_, hb⟩ hS K hK
  have hk' : k < j := by simpa [depP] using hk
  exact slotP hd hl k s hk' (by simp [Array.getD]; omega) hs
theorem obR (eo : R[j]? = some o) (h : Core P R a0 V Q S j o (depR o n) (noneB R (Array.replicate n false))) : ObR P R n a0 V Q S j := by
  intro o' listed a W ho hd hl hS K hK
  obtain rfl : o' = o := Option.some.inj (ho.symm.trans eo)
  refine h a W ⟨fun k s hk hs => ?_, fun d hn => hd.base d hn⟩ hS K hK
  rw [depR, Bool.and_eq_true] at hk
  have hk' : k < n := by simpa using hk.1
  exact hd.slot hl k s hk.2 (by simp [Array.getD]; omega) hs
theorem Sl.u (s : Sl R a0 V D N a) (k t : Nat) (h : slO R D k t = true) : a.eval (.tmp t) = V k := eval_tmp (s.at' k t (slO_of h).1 (slO_of h).2)
theorem Sl.g (s : Sl R a0 V D N a) (k t : Nat) {G : Bool} {v : Value} (h : slO R D k t = true) (hG : G = true) (hV : V k = gw G v) : a.eval (.tmp t) = v := by
  rw [s.u k t h, hV, gw_of hG]
theorem Sl.b (s : Sl R a0 V D N a) (t : Nat) {v : Value} (h : N t = true) (hv : a0.tmps[t]? = some v) : a.eval (.tmp t) = v := eval_tmp ((s.base t h).trans hv)
/-- no guard; a guard; a call with none; a call with one -/
theorem coreU (eo : R[j]? = some o) (hg : o.guard = none) (h : ∀ a W, Sl R a0 V D N a → S W → (execOp a.eval o).run P W = .ok (.value (V j)) W) : Core P R a0 V Q S j o D N :=
  fun a _ s hS _ hK => run_quiet eo (Or.inl ⟨wanted_none hg, fun W' hW' => h a W' s hW'⟩) hS hK
theorem coreC {f : FuncId} {args : Array Value} (eo : R[j]? = some o) (hg : o.guard = none) (h : ∀ a W, Sl R a0 V D N a → (execOp a.eval o).run P W = .ok (.enter f args) W) (hc : ∀ W, S W → Calls P f args W fun e w' => e = .returned (V j) ∧ S w') : Core P R a0 V Q S j o D N :=
  fun a W s hS _ hK => run_call f args eo (wanted_none hg) (h a W s) (hc W hS) hK
theorem coreG {g d : Nat} {b G0 x : Bool} {v : Value} (eo : R[j]? = some o) (hg : o.guard = some (g, b)) (hd : ((R[g]?).bind (·.dst)) = some d) (hD : D g = true) (hV0 : V g = gw G0 (.bool x)) (hV : V j = gw (G0 && (x == b)) v)
    (h : (G0 && (x == b)) = true → ∀ a W, Sl R a0 V D N a → S W → (execOp a.eval o).run P W = .ok (.value v) W) : Core P R a0 V Q S j o D N := by
  intro a W s hS K hK
  have hw := wanted_gw hg hd ((s.at' g d hD hd).trans (congrArg some hV0))
  cases hG : (G0 && (x == b)) with
  | false => rw [hG] at hw; exact run_quiet eo (Or.inr ⟨hw, by rw [hV]; exact gw_no hG⟩) hS hK
  | true =>
    rw [hG] at hw
    rw [hV, gw_of hG] at hK
    exact run_quiet eo (Or.inl ⟨hw, fun W' hW' => h hG a W' s hW'⟩) hS hK
theorem coreH {g d : Nat} {b G0 x : Bool} {v : Value} {f : FuncId} {args : Array Value} (eo : R[j]? = some o) (hg : o.guard = some (g, b)) (hd : ((R[g]?).bind (·.dst)) = some d) (hD : D g = true) (hV0 : V g = gw G0 (.bool x)) (hV : V j = gw (G0 && (x == b)) v)
    (h : (G0 && (x == b)) = true → ∀ a W, Sl R a0 V D N a → (execOp a.eval o).run P W = .ok (.enter f args) W) (hc : ∀ W, S W → Calls P f args W fun e w' => e = .returned v ∧ S w') : Core P R a0 V Q S j o D N := by
  intro a W s hS K hK
  have hw := wanted_gw hg hd ((s.at' g d hD hd).trans (congrArg some hV0))
  cases hG : (G0 && (x == b)) with
  | false => rw [hG] at hw; exact run_quiet eo (Or.inr ⟨hw, by rw [hV]; exact gw_no hG⟩) hS hK
  | true =>
    rw [hG] at hw
    rw [hV, gw_of hG] at hK
    exact run_call f args eo hw (h hG a W s) (hc W hS) hK
theorem ex_pickA {ρ : Operand → Value} {W : World} {c x : Tmp} {G C X : Bool} (ho : o.op = .pick (.tmp c) (.tmp x) (.const (.bool false))) (hc : ρ (.tmp c) = .bool C) (hx : ρ (.tmp x) = gw (G && (C == true)) (.bool X)) (hk : ρ (.const (.bool false)) = .bool false) (hG : G = true) : (execOp ρ o).run P W = .ok (.value (.bool (C && X))) W := by
  rw [ex_pick ho hc, hx, hk, pick_and hG]
theorem ex_pickO {ρ : Operand → Value} {W : World} {c y : Tmp} {G C X : Bool} (ho : o.op = .pick (.tmp c) (.const (.bool true)) (.tmp y)) (hc : ρ (.tmp c) = .bool C) (hy : ρ (.tmp y) = gw (G && (C == false)) (.bool X)) (hk : ρ (.const (.bool true)) = .bool true) (hG : G = true) : (execOp ρ o).run P W = .ok (.value (.bool (C || X))) W := by
  rw [ex_pick ho hc, hy, hk, pick_or hG]
end
section
variable {P : Program} {R : Array Oper} {a0 : Act} {V : Nat → Value} {Q : Exit → Act → World → Prop} {S : World → Prop} {j n : Nat}
theorem obPU (hz : R.size = n) (hj : j < n) (hg : (oAt R j).guard = none) (h : ∀ a W, Sl R a0 V (depP j) (noneTo R j) a → S W → (execOp a.eval (oAt R j)).run P W = .ok (.value (V j)) W) : ObP P R n a0 V Q S j := obP (oAt_eq hz hj) hj (coreU (oAt_eq hz hj) hg h)
theorem obPC {f : FuncId} {args : Array Value} (hz : R.size = n) (hj : j < n) (hg : (oAt R j).guard = none) (h : ∀ a W, Sl R a0 V (depP j) (noneTo R j) a → (execOp a.eval (oAt R j)).run P W = .ok (.enter f args) W) (hc : ∀ W, S W → Calls P f args W fun e w' => e = .returned (V j) ∧ S w') : ObP P R n a0 V Q S j := obP (oAt_eq hz hj) hj (coreC (oAt_eq hz hj) hg h hc)
theorem obPG (G0 : Bool) {x : Bool} {v : Value} (g d : Nat) (b : Bool) (hz : R.size = n) (hj : j < n) (hg : gdO R (oAt R j) (depP j) g b d = true) (hV0 : V g = gw G0 (.bool x)) (hV : V j = gw (G0 && (x == b)) v)
    (h : (G0 && (x == b)) = true → ∀ a W, Sl R a0 V (depP j) (noneTo R j) a → S W → (execOp a.eval (oAt R j)).run P W = .ok (.value v) W) : ObP P R n a0 V Q S j := obP (oAt_eq hz hj) hj (coreG (oAt_eq hz hj) (gdO_of hg).1 (slO_of (gdO_of hg).2).2 (slO_of (gdO_of hg).2).1 hV0 hV h)
theorem obPH (G0 : Bool) {x : Bool} {v : Value} {f : FuncId} {args : Array Value} (g d : Nat) (b : Bool) (hz : R.size = n) (hj : j < n) (hg : gdO R (oAt R j) (depP j) g b d = true) (hV0 : V g = gw G0 (.bool x)) (hV : V j = gw (G0 && (x == b)) v)
    (h : (G0 && (x == b)) = true → ∀ a W, Sl R a0 V (depP j) (noneTo R j) a → (execOp a.eval (oAt R j)).run P W = .ok (.enter f args) W) (hc : ∀ W, S W → Calls P f args W fun e w' => e = .returned v ∧ S w') : ObP P R n a0 V Q S j := obP (oAt_eq hz hj) hj (coreH (oAt_eq hz hj) (gdO_of hg).1 (slO_of (gdO_of hg).2).2 (slO_of (gdO_of hg).2).1 hV0 hV h hc)
theorem obRU (hz : R.size = n) (hj : j < n) (hg : (oAt R j).guard = none) (h : ∀ a W, Sl R a0 V (depR (oAt R j) n) (noneB R (Array.replicate n false)) a → S W → (execOp a.eval (oAt R j)).run P W = .ok (.value (V j)) W) : ObR P R n a0 V Q S j := obR (oAt_eq hz hj) (coreU (oAt_eq hz hj) hg h)
theorem obRC {f : FuncId} {args : Array Value} (hz : R.size = n) (hj : j < n) (hg : (oAt R j).guard = none) (h : ∀ a W, Sl R a0 V (depR (oAt R j) n) (noneB R (Array.replicate n false)) a → (execOp a.eval (oAt R j)).run P W = .ok (.enter f args) W) (hc : ∀ W, S W → Calls P f args W fun e w' => e = .returned (V j) ∧ S w') : ObR P R n a0 V Q S j := obR (oAt_eq hz hj) (coreC (oAt_eq hz hj) hg h hc)
theorem obRG (G0 : Bool) {x : Bool} {v : Value} (g d : Nat) (b : Bool) (hz : R.size = n) (hj : j < n) (hg : gdO R (oAt R j) (depR (oAt R j) n) g b d = true) (hV0 : V g = gw G0 (.bool x)) (hV : V j = gw (G0 && (x == b)) v)
    (h : (G0 && (x == b)) = true → ∀ a W, Sl R a0 V (depR (oAt R j) n) (noneB R (Array.replicate n false)) a → S W → (execOp a.eval (oAt R j)).run P W = .ok (.value v) W) : ObR P R n a0 V Q S j := obR (oAt_eq hz hj) (coreG (oAt_eq hz hj) (gdO_of hg).1 (slO_of (gdO_of hg).2).2 (slO_of (gdO_of hg).2).1 hV0 hV h)
theorem obRH (G0 : Bool) {x : Bool} {v : Value} {f : FuncId} {args : Array Value} (g d : Nat) (b : Bool) (hz : R.size = n) (hj : j < n) (hg : gdO R (oAt R j) (depR (oAt R j) n) g b d = true) (hV0 : V g = gw G0 (.bool x)) (hV : V j = gw (G0 && (x == b)) v)
    (h : (G0 && (x == b)) = true → ∀ a W, Sl R a0 V (depR (oAt R j) n) (noneB R (Array.replicate n false)) a → (execOp a.eval (oAt R j)).run P W = .ok (.enter f args) W) (hc : ∀ W, S W → Calls P f args W fun e w' => e = .returned v ∧ S w') : ObR P R n a0 V Q S j := obR (oAt_eq hz hj) (coreH (oAt_eq hz hj) (gdO_of hg).1 (slO_of (gdO_of hg).2).2 (slO_of (gdO_of hg).2).1 hV0 hV h hc)
end

end Go.Proofs.Ytppgkhcmdajolaa
