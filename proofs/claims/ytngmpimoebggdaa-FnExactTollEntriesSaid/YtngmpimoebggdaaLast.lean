/- A region whose last operation waits for all others: walk it without that one, then run it. -/
import Derived.Deep.RegionHeld3
namespace Go.Proofs.Ytngmpimoebggdaa.C1
open Go
set_option linter.unusedVariables false

section
variable {P : Program} {md : Region.Mode} {pre : Array Oper} {last : Oper} {Q : Exit → Act → World → Prop}
/-- The exits of the region without its last operation. -/
def QL (P : Program) (last : Oper) (Q : Exit → Act → World → Prop) : Exit → Act → World → Prop
  | .normal, a, w => last.wp P a w (fun a' w' => Q .normal a' w') Q
  | e, a, w => Q e a w
theorem mem_ready {ops : Array Oper} {l : Array Bool} {i : Nat} : i ∈ Region.ready md ops l ↔ i < ops.size ∧ l.getD i true = false ∧ ∃ o, ops[i]? = some o ∧ ∀ e ∈ o.after, Region.binds md e = true → l.getD e.on false = true := by
  unfold Region.ready
  rw [List.mem_filter, List.mem_range]
  constructor
  · rintro ⟨h1, h2⟩
    rw [Bool.and_eq_true] at h2
    refine ⟨h1, by simpa using h2.1, ?_⟩
    cases ho : ops[i]? with
    | none => rw [ho] at h2; simp at h2
    | some o =>
      refine ⟨o, rfl, fun e he hb => ?_⟩
      rw [ho] at h2
      have h3 := h2.2
      simp only [Option.map_some, Option.getD_some, Array.all_eq_true_iff_forall_mem] at h3
      have := h3 e he
      simpa [hb] using this
  · rintro ⟨h1, h2, o, ho, h3⟩
    refine ⟨h1, ?_⟩
    rw [Bool.and_eq_true, h2, ho]
    refine ⟨rfl, ?_⟩
    simp only [Option.map_some, Option.getD_some, Array.all_eq_true_iff_forall_mem]
    intro e he
    cases hb : Region.binds md e with
    | false => rfl
    | true => simpa using h3 e he hb
theorem wp_toQ {o : Oper} {a : Act} {w : World} {K K' : Act → World → Prop} (h : ∀ a w, K a w → K' a w)
    (hh : o.wp P a w K (QL P last Q)) : o.wp P a w K' Q := by
  unfold Oper.wp at *
  generalize (execOp a.eval o).run P w = r at *
  cases r with
  | ok n w' =>
    cases n <;> simp only [Oper.upon] at hh ⊢ <;>
      first
        | exact h _ _ hh
        | exact Calls.mono hh (fun e w'' he => by cases e <;> first | exact h _ _ he | exact he)
        | exact Rows.mono hh (fun _ _ he => h _ _ he)
  | halt x w' => cases x <;> simp only [Oper.upon] at hh ⊢ <;> exact hh
theorem getD_push {l : Array Bool} {i : Nat} {d : Bool} (h : i < l.size) : (l.push false).getD i d = l.getD i d := by
  simp [Array.getD_eq_getD_getElem?, Array.getElem?_push, h, Nat.ne_of_lt h]
theorem getD_same {l : Array Bool} {i : Nat} (h : i < l.size) (d d' : Bool) : l.getD i d = l.getD i d' := by
  simp [Array.getD_eq_getD_getElem?, h]
/-- No guards, edges backwards, and the last operation waits for all. -/
def lastB (md : Region.Mode) (pre : Array Oper) (last : Oper) : Bool :=
  ((List.range pre.size).all fun i => match pre[i]? with | some o => o.guard.isNone && o.after.all (fun e => decide (e.on < i)) | none => true) &&
    (last.guard.isNone && (List.range pre.size).all fun i => last.after.any fun e => Region.binds md e && decide (e.on = i))
theorem all_listed (hp : ∀ (i : Nat) (o : Oper), pre[i]? = some o → ∀ e ∈ o.after, e.on < i) {l : Array Bool} (hs : l.size = pre.size) (h : Region.ready md pre l = []) : ∀ i, i < pre.size → ∀ d, l.getD i d = true := by
  intro i
  induction i using Nat.strongRecOn with
  | _ i ih =>
    intro hi d
    rw [getD_same (by omega) d true]
    cases hl : l.getD i true with
    | true => rfl
    | false =>
      have : i ∈ Region.ready md pre l := mem_ready.2 ⟨hi, hl, pre[i], Array.getElem?_eq_getElem hi, fun e he _ => by
        have := hp i pre[i] (Array.getElem?_eq_getElem hi) e he
        exact ih e.on this (by omega) false⟩
      rw [h] at this
      cases this
theorem wpAny_last (hp : ∀ (i : Nat) (o : Oper), pre[i]? = some o → o.guard = none ∧ ∀ e ∈ o.after, e.on < i) (hl : last.guard = none) (hc : ∀ i, i < pre.size → ∃ e ∈ last.after, Region.binds md e = true ∧ e.on = i) (hd : ∀ e ∈ last.after, e.on < pre.size) :
    ∀ (fuel : Nat) (l : Array Bool) (a : Act) (w : World), l.size = pre.size → wpAny P md pre (QL P last Q) fuel l a w → wpAny P md (pre.push last) Q (fuel + 1) (l.push false) a w := by
  have hp' : ∀ (i : Nat) (o : Oper), pre[i]? = some o → ∀ e ∈ o.after, e.on < i := fun i o h => (hp i o h).2
  have hlast : (pre.push last)[pre.size]? = some last := by simp
  have hpre : ∀ i, i < pre.size → (pre.push last)[i]? = pre[i]? := fun i hi => by rw [Array.getElem?_push]; simp [Nat.ne_of_lt hi]
  -- what may come up
  have hup : ∀ (l : Array Bool) (i : Nat), l.size = pre.size → i < pre.size → (i ∈ Region.ready md (pre.push last) (l.push false) ↔ i ∈ Region.ready md pre l) := by
    intro l i hs hi
    rw [mem_ready, mem_ready, hpre i hi, getD_push (by omega)]
    constructor
    · rintro ⟨_, h2, o, ho, h3⟩
      exact ⟨hi, h2, o, ho, fun e he hb => by have := h3 e he hb; rwa [getD_push (by have := hp' i o ho e he; omega)] at this⟩
    · rintro ⟨_, h2, o, ho, h3⟩
      exact ⟨by simp; omega, h2, o, ho, fun e he hb => by rw [getD_push (by have := hp' i o ho e he; omega)]; exact h3 e he hb⟩
  have hmax : ∀ (l : Array Bool), l.size = pre.size → pre.size ∈ Region.ready md (pre.push last) (l.push false) → Region.ready md pre l = [] := by
    intro l hs h
    obtain ⟨_, _, o, ho, h3⟩ := mem_ready.1 h
    rw [hlast] at ho
    injection ho with ho
    subst ho
    rw [List.eq_nil_iff_forall_not_mem]
    intro i hi
    obtain ⟨h1, h2, _⟩ := mem_ready.1 hi
    obtain ⟨e, he, hb, rfl⟩ := hc i h1
    have h4 := h3 e he hb
    rw [getD_push (by omega), getD_same (by omega) false true, h2] at h4
    cases h4
  have hsz : ∀ (l : Array Bool) (i : Nat), i ∈ Region.ready md (pre.push last) (l.push false) → i < pre.size ∨ i = pre.size := fun l i h => by
    have := (mem_ready.1 h).1
    simp at this
    omega
  have hend : ∀ (fuel : Nat) (l : Array Bool) (a : Act) (w : World), l.size = pre.size → Region.ready md pre l = [] → QL P last Q .normal a w → wpAny P md (pre.push last) Q (fuel + 1) (l.push false) a w := by
    intro fuel l a w hs hr hq
    have hin : pre.size ∈ Region.ready md (pre.push last) (l.push false) := mem_ready.2 ⟨by simp, by simp [Array.getD_eq_getD_getElem?, hs.symm], last, hlast, fun e he _ => by
      rw [getD_push (by have := hd e he; omega)]
      exact all_listed hp' hs hr e.on (hd e he) false⟩
    refine ⟨fun h0 => absurd (h0 ▸ hin) (by simp), fun i hi => ?_⟩
    have e : i = pre.size := by
      rcases hsz l i hi with h | h
      · have := (hup l i hs h).1 hi
        rw [hr] at this; cases this
      · exact h
    subst e
    unfold wpOp
    rw [hlast]
    have hw : Region.wanted last (yielded (pre.push last) a.tmps) = true := by simp [Region.wanted, hl]
    simp only [hw, if_true]
    have hall : Region.ready md (pre.push last) ((l.push false).setIfInBounds pre.size true) = [] := by
      rw [List.eq_nil_iff_forall_not_mem]
      intro i hi
      obtain ⟨h1, h2, _⟩ := mem_ready.1 hi
      rcases Nat.lt_or_ge i pre.size with h | h
      · have h5 := all_listed hp' hs hr i h true
        rw [← getD_push (l := l) (i := i) (d := true) (by omega)] at h5
        have h6 : ((l.push false).setIfInBounds pre.size true).getD i true = (l.push false).getD i true := by
          simp [Array.getD_eq_getD_getElem?, Nat.ne_of_gt h]
        rw [h6, h5] at h2; cases h2
      · simp at h1
        have e : i = pre.size := by omega
        subst e
        have h6 : ((l.push false).setIfInBounds pre.size true).getD pre.size true = true := by
          simp [Array.getD_eq_getD_getElem?, hs]
        rw [h6] at h2; cases h2
    refine Or.inl (Oper.wp_mono (fun a' w' hq' => ?_) hq)
    cases fuel with
    | zero => exact ⟨hall, hq'⟩
    | succ f => exact ⟨fun _ => hq', fun i hi => by rw [hall] at hi; cases hi⟩
  intro fuel
  induction fuel with
  | zero => intro l a w hs h; exact hend 0 l a w hs h.1 h.2
  | succ fuel ih =>
    intro l a w hs h
    by_cases hr : Region.ready md pre l = []
    · exact hend (fuel + 1) l a w hs hr (h.1 hr)
    · obtain ⟨j, hj⟩ := List.exists_mem_of_ne_nil _ hr
      have hjm := (mem_ready.1 hj).1
      refine ⟨fun h0 => absurd ((hup l j hs hjm).2 hj) (by rw [h0]; simp), fun i hi => ?_⟩
      rcases hsz l i hi with h1 | h1
      · have h2 := h.2 i ((hup l i hs h1).1 hi)
        have ho : pre[i]? = some pre[i] := Array.getElem?_eq_getElem h1
        have hw : ∀ y, Region.wanted pre[i] y = true := fun y => by simp [Region.wanted, (hp i pre[i] ho).1]
        unfold wpOp at h2 ⊢
        rw [hpre i h1, ho]
        rw [ho] at h2
        simp only [hw, if_true] at h2 ⊢
        have hset : (l.push false).setIfInBounds i true = (l.setIfInBounds i true).push false := by
          apply Array.ext_getElem?
          intro k
          rw [Array.getElem?_setIfInBounds, Array.getElem?_push, Array.getElem?_push, Array.getElem?_setIfInBounds]
          by_cases e : i = k
          · subst e
            simp [hs, h1]
            rw [if_pos (by omega), if_neg (by omega)]
          · simp [e]
        rcases h2 with h2 | h2
        · refine Or.inl (wp_toQ (fun a' w' hk => ?_) h2)
          rw [hset]
          exact ih _ a' w' (by simp [hs]) hk
        · exact Or.inr h2
      · subst h1
        exact absurd (hmax l hs hi) hr
theorem wp_region_last {id : Nat} {ops : Array Oper} {a : Act} {w : World} (hm : P.follows .mixedOrders = true) (ho : ops = pre.push last) (hB : lastB .any pre last = true) (hd : last.after.all (fun e => decide (e.on < pre.size)) = true)
    (h : wpAny P .any pre (QL P last Q) pre.size (Array.replicate pre.size false) a { w with drawn := w.drawn + 1 }) : (Code.region id ops true).wp P Q a w := by
  subst ho
  unfold lastB at hB
  simp only [Bool.and_eq_true, List.all_eq_true, List.mem_range] at hB
  obtain ⟨h1, h2, h3⟩ := hB
  refine wp_region_any hm ?_
  have hs : (pre.push last).size = pre.size + 1 := by simp
  have hr : Array.replicate (pre.push last).size false = (Array.replicate pre.size false).push false := by
    rw [hs]; exact Array.replicate_succ
  rw [hr, hs]
  refine wpAny_last (fun i o hio => ?_) (by simpa using h2) (fun i hi => ?_) (fun e he => ?_) _ _ _ _ (by simp) h
  · have hi : i < pre.size := (Array.getElem?_eq_some_iff.1 hio).1
    have := h1 i hi
    rw [hio] at this
    simp only [Bool.and_eq_true, Array.all_eq_true_iff_forall_mem, decide_eq_true_eq] at this
    exact ⟨by simpa using this.1, this.2⟩
  · have := h3 i hi
    rw [Array.any_eq_true] at this
    obtain ⟨j, hj, h4⟩ := this
    simp only [Bool.and_eq_true, decide_eq_true_eq] at h4
    exact ⟨last.after[j], Array.getElem_mem hj, h4⟩
  · rw [Array.all_eq_true_iff_forall_mem] at hd
    simpa using hd e he
theorem wp_region_last2 {id : Nat} {ops : Array Oper} {a : Act} {w : World} (S : World → Prop) (hm : P.follows .mixedOrders = true) (hp : ops.pop = pre) (hl : ops.back? = some last) (ho : ops = pre.push last)
    (hB : (lastB .any pre last && last.after.all (fun e => decide (e.on < pre.size))) = true) (hS : S w.drew)
    (h : S w.drew → wpAnyH P .any pre (QL P last Q) S pre.size (Array.replicate pre.size false) a w.drew) : (Code.region id ops true).wp P Q a w := by
  rw [Bool.and_eq_true] at hB
  exact wp_region_last hm ho hB.1 hB.2 (wpAny_of_held _ _ _ _ (h hS))
end
end Go.Proofs.Ytngmpimoebggdaa.C1
