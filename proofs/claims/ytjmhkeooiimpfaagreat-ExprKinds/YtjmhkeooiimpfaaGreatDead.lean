/-
  Regions that draw their order, of which nothing is wanted any more: whatever the order, each slot that is not guarded holds false.
-/
import Derived.Test.YtjmhkeooiimpfaaGreatCheck
import Derived.Deep.RegionHeld3
namespace Go.Proofs.YtjmhkeooiimpfaaGreat
open Go.RowKit

/-- what an operation leaves that only moves, picks, or is not wanted -/
def moved (ops : Array Oper) (o : Oper) (a : Act) : Option Value :=
  if Region.wanted o (yielded ops a.tmps) = true then
    match o.op with
    | .move x => some (a.eval x)
    | .assign x => some (a.eval x)
    | .pick c x y => match a.eval c with
      | .bool true => some (a.eval x)
      | .bool false => some (a.eval y)
      | _ => none
    | _ => none
  else some undef

theorem moved_yields {P : Program} {ops : Array Oper} {S : World → Prop} {o : Oper} {a : Act} {v : Value} (h : moved ops o a = some v) : YieldsIf P ops S o v a := by
  unfold moved at h
  by_cases hw : Region.wanted o (yielded ops a.tmps) = true
  · rw [if_pos hw] at h
    refine Or.inl ⟨hw, fun w _ => ?_⟩
    cases ho : o.op with
    | move x => rw [ho] at h; simp only [Option.some.injEq] at h; subst h; simp [execOp, ho]
    | assign x => rw [ho] at h; simp only [Option.some.injEq] at h; subst h; simp [execOp, ho]
    | pick c x y =>
      rw [ho] at h
      simp only at h
      cases hc : a.eval c with
      | bool b =>
        rw [hc] at h
        cases b with
        | true => simp only [Option.some.injEq] at h; subst h; simp [execOp, ho, hc, asBool]
        | false => simp only [Option.some.injEq] at h; subst h; simp [execOp, ho, hc, asBool]
      | _ => rw [hc] at h; cases h
    | _ => rw [ho] at h; cases h
  · rw [if_neg hw] at h
    simp only [Option.some.injEq] at h
    exact Or.inr ⟨by simpa using hw, h.symm⟩

theorem count_less (p : Nat → Bool) (i : Nat) (hp : p i = true) : ∀ l : List Nat, i ∈ l → l.countP (fun j => p j && j != i) + 1 ≤ l.countP p := by
  intro l
  induction l with
  | nil => intro h; cases h
  | cons x l ih =>
    intro h
    have mono : l.countP (fun j => p j && j != i) ≤ l.countP p := List.countP_mono_left fun j _ hj => by simp at hj; exact hj.1
    by_cases hx : x = i
    · subst hx
      simp [hp]
      exact mono
    · have hm : i ∈ l := by
        rcases List.mem_cons.1 h with e | e
        · exact absurd e.symm hx
        · exact e
      have := ih hm
      simp only [List.countP_cons]
      have e : (x != i) = true := by simpa using hx
      rw [e, Bool.and_true]
      omega

/-- what such an operation leaves -/
def dv (o : Oper) : Value := if o.guard.isSome = true then undef else .bool false

/-- how many are left -/
def left (ops : Array Oper) (listed : Array Bool) : Nat := (List.range ops.size).countP fun j => !listed.getD j true

section
variable (md : Region.Mode) (ops : Array Oper) (L0 : Array Bool) (a0 : Act)

/-- what is held of a state in mid-region -/
structure DeadAt (listed : Array Bool) (a : Act) : Prop where
  size : listed.size = ops.size
  defers : a.defers = a0.defers
  more : ∀ j, L0.getD j true = true → listed.getD j true = true
  new : ∀ j o d, ops[j]? = some o → L0.getD j true = false → listed.getD j true = true → o.dst = some d → a.tmps[d]? = some (dv o)
  old : ∀ d, (∀ j o, ops[j]? = some o → L0.getD j true = false → o.dst ≠ some d) → a.tmps[d]? = a0.tmps[d]?
  frame : a.tmps.size = a0.tmps.size

/-- what is asked of the operations that are left -/
structure DeadOk : Prop where
  size : L0.size = ops.size
  back : ∀ j o, ops[j]? = some o → L0.getD j true = false → ∀ e ∈ o.after, e.on < j
  dst : ∀ j o, ops[j]? = some o → L0.getD j true = false → ∃ d, o.dst = some d ∧ d < a0.tmps.size
  one : ∀ j k o p d, ops[j]? = some o → ops[k]? = some p → L0.getD j true = false → L0.getD k true = false → o.dst = some d → p.dst = some d → j = k
  runs : ∀ j o listed a, ops[j]? = some o → L0.getD j true = false → DeadAt ops L0 a0 listed a → (∀ e ∈ o.after, Region.binds md e = true → listed.getD e.on false = true) → moved ops o a = some (dv o)
end

theorem dead_done {ops : Array Oper} {L0 listed : Array Bool} {a0 a : Act} {md : Region.Mode} (hk : DeadOk md ops L0 a0) (hd : DeadAt ops L0 a0 listed a) (hr : Region.ready md ops listed = []) : ∀ j, j < ops.size → listed.getD j true = true := by
  intro j
  induction j using Nat.strongRecOn with
  | _ j ih =>
    intro hj
    apply Classical.byContradiction
    intro hn
    have hn' : listed.getD j true = false := by simpa using hn
    have h0 : L0.getD j true = false := by
      cases e : L0.getD j true
      · rfl
      · rw [hd.more j e] at hn'; cases hn'
    obtain ⟨o, ho⟩ : ∃ o, ops[j]? = some o := ⟨ops[j], Array.getElem?_eq_getElem hj⟩
    have hin : j ∈ Region.ready md ops listed := by
      unfold Region.ready
      rw [List.mem_filter]
      refine ⟨List.mem_range.2 hj, ?_⟩
      rw [hn', ho]
      simp only [Bool.not_false, Bool.true_and, Option.map_some, Option.getD_some, Array.all_eq_true_iff_forall_mem]
      intro e he
      have hlt := hk.back j o ho h0 e he
      have hl := ih e.on hlt (by omega)
      have hs := hd.size
      have : listed.getD e.on false = true := by
        simp only [Array.getD, show e.on < listed.size by omega, dif_pos] at hl ⊢
        exact hl
      rw [this]; simp
    rw [hr] at hin
    cases hin

theorem dead_run {P : Program} {md : Region.Mode} {ops : Array Oper} {Q : Exit → Act → World → Prop} {S : World → Prop} {L0 : Array Bool} {a0 : Act} {w : World} (hk : DeadOk md ops L0 a0) (hS : S w)
    (hq : ∀ a', a'.defers = a0.defers → (∀ j o d, ops[j]? = some o → L0.getD j true = false → o.dst = some d → a'.tmps[d]? = some (dv o)) → Q .normal a' w) :
    ∀ (fuel : Nat) (listed : Array Bool) (a : Act), DeadAt ops L0 a0 listed a → left ops listed ≤ fuel → wpAnyH P md ops Q S fuel listed a w := by
  have fin : ∀ listed a, DeadAt ops L0 a0 listed a → Region.ready md ops listed = [] → Q .normal a w := by
    intro listed a hd hr
    refine hq a hd.defers fun j o d hj h0 ho => hd.new j o d hj h0 ?_ ho
    exact dead_done hk hd hr j (Array.getElem?_eq_some_iff.1 hj).1
  intro fuel
  induction fuel with
  | zero =>
    intro listed a hd hl
    have hr : Region.ready md ops listed = [] := by
      cases hh : Region.ready md ops listed with
      | nil => rfl
      | cons i r =>
        exfalso
        have hi : i ∈ Region.ready md ops listed := by rw [hh]; simp
        unfold Region.ready at hi
        rw [List.mem_filter] at hi
        have hu : (!listed.getD i true) = true := by
          have := hi.2
          rw [Bool.and_eq_true] at this
          exact this.1
        have : 0 < left ops listed := List.countP_pos_iff.2 ⟨i, hi.1, hu⟩
        omega
    exact ⟨hr, fin listed a hd hr⟩
  | succ fuel ih =>
    intro listed a hd hl
    refine ⟨fin listed a hd, fun i hi => ?_⟩
    unfold Region.ready at hi
    rw [List.mem_filter, Bool.and_eq_true] at hi
    obtain ⟨hir, hu, hall⟩ := hi
    have hisz := List.mem_range.1 hir
    have hu' : listed.getD i true = false := by simpa using hu
    have h0 : L0.getD i true = false := by
      cases e : L0.getD i true
      · rfl
      · rw [hd.more i e] at hu'; cases hu'
    obtain ⟨o, ho⟩ : ∃ o, ops[i]? = some o := ⟨ops[i], Array.getElem?_eq_getElem hisz⟩
    rw [ho] at hall
    simp only [Option.map_some, Option.getD_some, Array.all_eq_true_iff_forall_mem] at hall
    have hm := hk.runs i o listed a ho h0 hd (fun e he hb => by
      have := hall e he
      rw [hb] at this
      simpa using this)
    refine (moved_yields hm).wpOp ho hS ⟨hS, ih _ _ ?_ ?_⟩
    · obtain ⟨d, hdst, hlt⟩ := hk.dst i o ho h0
      have hput : a.put o.dst (dv o) = { a with tmps := a.tmps.setIfInBounds d (dv o) } := by rw [hdst]; rfl
      have hsz := hd.size
      have hget : ∀ j, (listed.setIfInBounds i true).getD j true = if j = i then true else listed.getD j true := by
        intro j
        by_cases e : j = i
        · subst e; rw [if_pos rfl]; simp [Array.getD]
        · rw [if_neg e]
          by_cases hj : j < listed.size
          · simp [Array.getD, hj, Ne.symm e]
          · simp [Array.getD, hj]
      rw [hput]
      refine ⟨by simpa using hd.size, hd.defers, ?_, ?_, ?_, by simpa using hd.frame⟩
      · intro j hj
        rw [hget]
        by_cases e : j = i
        · rw [if_pos e]
        · rw [if_neg e]; exact hd.more j hj
      · intro j p d' hj hj0 hl hpd
        rw [hget] at hl
        by_cases e : j = i
        · subst e
          rw [ho] at hj; cases hj
          rw [hdst] at hpd; cases hpd
          rw [Array.getElem?_setIfInBounds_self, if_pos (by rw [hd.frame]; exact hlt)]
        · rw [if_neg e] at hl
          have hne : d ≠ d' := by
            intro e2
            subst e2
            exact e (hk.one j i p o d hj ho hj0 h0 hpd hdst)
          rw [Array.getElem?_setIfInBounds_ne hne]
          exact hd.new j p d' hj hj0 hl hpd
      · intro d' hd'
        have hne : d ≠ d' := by
          intro e2
          subst e2
          exact hd' i o ho h0 hdst
        rw [Array.getElem?_setIfInBounds_ne hne]
        exact hd.old d' hd'
    · have hc := count_less (fun j => !listed.getD j true) i (by simpa using hu') (List.range ops.size) hir
      have e : left ops (listed.setIfInBounds i true) = (List.range ops.size).countP (fun j => !listed.getD j true && j != i) := by
        unfold left
        apply List.countP_congr
        intro j hj
        have hj' := List.mem_range.1 hj
        have hsz := hd.size
        by_cases e : j = i
        · subst e; simp [Array.getD, hsz, hj']
        · simp [Array.getD, hsz, hj', Ne.symm e, e]
      unfold left at hl
      omega

/-- nothing that is left writes a slot -/
def noneB (ops : Array Oper) (L0 : Array Bool) (s : Nat) : Bool := (List.range ops.size).all fun j => L0.getD j true || (ops[j]?).all fun p => p.dst != some s

/-- a slot holds false when an operation comes up -/
def falseB (md : Region.Mode) (ops : Array Oper) (L0 : Array Bool) (tm : Array Value) (o : Oper) (s : Nat) : Bool :=
  o.after.any (fun e => Region.binds md e && !L0.getD e.on true && (ops[e.on]?).any fun p => p.dst == some s && p.guard.isNone) ||
  ((match tm[s]? with | some (.bool false) => true | _ => false) && noneB ops L0 s)

/-- an operation is dead -/
def deadB (md : Region.Mode) (ops : Array Oper) (L0 : Array Bool) (tm : Array Value) (o : Oper) : Bool :=
  match o.guard with
  | some (g, b) => match ops[g]? with
    | none => false
    | some og => match og.dst with
      | none => false
      | some dg => if L0.getD g true = true then (match tm[dg]? with | some (.bool c) => c != b | _ => false) && noneB ops L0 dg
        else o.after.any (fun e => Region.binds md e && e.on == g) && (og.guard.isSome || b)
  | none => match o.op with
    | .move (.tmp s) => falseB md ops L0 tm o s
    | .assign (.tmp s) => falseB md ops L0 tm o s
    | .pick (.tmp s) _ (.const (.bool false)) => falseB md ops L0 tm o s
    | _ => false

def deadAllB (md : Region.Mode) (ops : Array Oper) (L0 : Array Bool) (tm : Array Value) : Bool :=
  (List.range ops.size).all fun j => L0.getD j true || match ops[j]? with
    | none => false
    | some o => o.after.all (fun e => decide (e.on < j)) && (match o.dst with | some d => decide (d < tm.size) | none => false) && deadB md ops L0 tm o

theorem noneB_old {ops : Array Oper} {L0 listed : Array Bool} {a0 a : Act} {s : Nat} (h : noneB ops L0 s = true) (hd : DeadAt ops L0 a0 listed a) : a.tmps[s]? = a0.tmps[s]? := by
  refine hd.old s fun j o hj h0 => ?_
  have hlt := (Array.getElem?_eq_some_iff.1 hj).1
  have := List.all_eq_true.1 h j (List.mem_range.2 hlt)
  rw [h0, hj] at this
  simpa using this

theorem listed_true {listed : Array Bool} {i : Nat} (h : listed.getD i false = true) : listed.getD i true = true := by
  simp only [Array.getD] at h ⊢
  split at h
  · rename_i hi; rw [dif_pos hi]; exact h
  · cases h

theorem falseB_at {md : Region.Mode} {ops : Array Oper} {L0 listed : Array Bool} {a0 a : Act} {o : Oper} {s : Nat} (h : falseB md ops L0 a0.tmps o s = true) (hd : DeadAt ops L0 a0 listed a) (hl : ∀ e ∈ o.after, Region.binds md e = true → listed.getD e.on false = true) : a.tmps.getD s undef = .bool false := by
  have key : a.tmps[s]? = some (.bool false) := by
    unfold falseB at h
    rw [Bool.or_eq_true] at h
    rcases h with h | h
    · obtain ⟨e, he, hb⟩ := Array.any_eq_true'.1 h
      rw [Bool.and_eq_true, Bool.and_eq_true] at hb
      obtain ⟨⟨hb1, hb2⟩, hb3⟩ := hb
      cases hp : ops[e.on]? with
      | none => rw [hp] at hb3; cases hb3
      | some p =>
        rw [hp] at hb3
        simp only [Option.any_some, Bool.and_eq_true, beq_iff_eq] at hb3
        have := hd.new e.on p s hp (by simpa using hb2) (listed_true (hl e he hb1)) hb3.1
        rw [this]
        have hg : p.guard.isSome = false := by cases hpg : p.guard with
          | none => rfl
          | some _ => rw [hpg] at hb3; simp at hb3
        simp [dv, hg]
    · rw [Bool.and_eq_true] at h
      rw [noneB_old h.2 hd]
      split at h
      · assumption
      · cases h.1
  simp only [Array.getD_eq_getD_getElem?, key, Option.getD_some]

theorem dead_ok {md : Region.Mode} {ops : Array Oper} {L0 : Array Bool} {a0 : Act} (dl : List (Option Tmp)) (hsz : L0.size = ops.size) (hdl : ops.toList.map (·.dst) = dl) (hnd : dl.Nodup) (hb : deadAllB md ops L0 a0.tmps = true) : DeadOk md ops L0 a0 := by
  have each : ∀ j o, ops[j]? = some o → L0.getD j true = false → (o.after.all (fun e => decide (e.on < j)) = true ∧ (match o.dst with | some d => decide (d < a0.tmps.size) | none => false) = true) ∧ deadB md ops L0 a0.tmps o = true := by
    intro j o hj h0
    have hlt := (Array.getElem?_eq_some_iff.1 hj).1
    have := List.all_eq_true.1 hb j (List.mem_range.2 hlt)
    rw [h0, hj] at this
    simp only [Bool.false_or, Bool.and_eq_true] at this
    exact this
  refine ⟨hsz, ?_, ?_, ?_, ?_⟩
  · intro j o hj h0 e he
    have := Array.all_eq_true_iff_forall_mem.1 (each j o hj h0).1.1 e he
    simpa using this
  · intro j o hj h0
    have := (each j o hj h0).1.2
    cases hd : o.dst with
    | none => rw [hd] at this; cases this
    | some d => rw [hd] at this; exact ⟨d, rfl, by simpa using this⟩
  · intro j k o p d hj hk _ _ hod hpd
    have at' : ∀ (i : Nat) (q : Oper), ops[i]? = some q → dl[i]? = some q.dst := by
      intro i q hq
      rw [← hdl, List.getElem?_map, Array.getElem?_toList, hq]; rfl
    have h1 := at' j o hj
    have h2 := at' k p hk
    rw [hod] at h1
    rw [hpd] at h2
    exact (List.getElem?_inj (List.getElem?_eq_some_iff.1 h1).1 hnd).1 (h1.trans h2.symm)
  · intro j o listed a hj h0 hd hl
    have hB := (each j o hj h0).2
    unfold deadB at hB
    cases hg : o.guard with
    | some gb =>
      obtain ⟨g, b⟩ := gb
      have hdv : dv o = undef := by simp [dv, hg]
      rw [hg] at hB
      simp only at hB
      have hw : Region.wanted o (yielded ops a.tmps) = false := by
        cases hog : ops[g]? with
        | none => rw [hog] at hB; cases hB
        | some og =>
          rw [hog] at hB
          simp only at hB
          cases hdg : og.dst with
          | none => rw [hdg] at hB; cases hB
          | some dg =>
            rw [hdg] at hB
            simp only at hB
            by_cases hL : L0.getD g true = true
            · rw [if_pos hL, Bool.and_eq_true] at hB
              have ht := noneB_old hB.2 hd
              split at hB
              · rename_i c hc
                have hne : c ≠ b := by simpa using hB.1
                simp only [Region.wanted, hg, yielded, hog, Option.bind_some, hdg, ht, hc]
                simpa using hne
              · cases hB.1
            · rw [if_neg hL, Bool.and_eq_true] at hB
              obtain ⟨e, he, hbe⟩ := Array.any_eq_true'.1 hB.1
              rw [Bool.and_eq_true, beq_iff_eq] at hbe
              have hlg := listed_true (hl e he hbe.1)
              rw [hbe.2] at hlg
              have ht := hd.new g og dg hog (by simpa using hL) hlg hdg
              simp only [Region.wanted, hg, yielded, hog, Option.bind_some, hdg, ht]
              cases hgg : og.guard with
              | none =>
                rw [hgg] at hB
                have hbt : b = true := by simpa using hB.2
                simp [dv, hgg, hbt]
              | some _ => simp [dv, hgg, undef]
      rw [moved, hw, hdv]
      rfl
    | none =>
      have hdv : dv o = .bool false := by simp [dv, hg]
      have hw : Region.wanted o (yielded ops a.tmps) = true := by simp [Region.wanted, hg]
      rw [hg] at hB
      simp only at hB
      rw [moved, if_pos hw, hdv]
      split at hB
      · rename_i s hop
        rw [hop]
        have := falseB_at hB hd hl
        simp [Act.eval, this]
      · rename_i s hop
        rw [hop]
        have := falseB_at hB hd hl
        simp [Act.eval, this]
      · rename_i s x hop
        rw [hop]
        have := falseB_at hB hd hl
        simp [Act.eval, this]
      · cases hB

/-- all that is left of a region is dead: its last slot holds false -/
theorem dead_end {P : Program} {md : Region.Mode} {ops : Array Oper} {Q : Exit → Act → World → Prop} {S : World → Prop} {n : Nat} {L0 : Array Bool} {a0 : Act} {w : World} (dl : List (Option Tmp)) (last d : Nat) (hsz : L0.size = ops.size) (hdl : ops.toList.map (·.dst) = dl) (hnd : dl.Nodup) (hb : deadAllB md ops L0 a0.tmps = true)
    (hn : decide (left ops L0 ≤ n) = true) (hl : ((ops[last]?).map fun o => (o.dst, o.guard.isSome)) = some (some d, false)) (hu : L0.getD last true = false) (hS : S w) (h : ∀ a' : Act, a'.tmps.getD d undef = .bool false → a'.defers = a0.defers → Q .normal a' w) : wpAnyH P md ops Q S n L0 a0 w := by
  refine dead_run (dead_ok dl hsz hdl hnd hb) hS (fun a' hd ha => ?_) n L0 a0 ⟨hsz, rfl, fun _ h => h, fun j o d _ h1 h2 _ => (by rw [h1] at h2; cases h2), fun _ _ => rfl, rfl⟩ (of_decide_eq_true hn)
  obtain ⟨o, ho, he⟩ := Option.map_eq_some_iff.1 hl
  simp only [Prod.mk.injEq] at he
  have := ha last o d ho hu he.1
  refine h a' ?_ hd
  simp only [Array.getD_eq_getD_getElem?, this, Option.getD_some]
  simp [dv, he.2]

end Go.Proofs.YtjmhkeooiimpfaaGreat
