/- A region that draws its order and ends in one operation that waits for all the others: the others in whatever order, under a condition on the world, and then that one, under none. -/
import Derived.Deep.RegionHeld3
namespace Go.Proofs.Yteekpdlkdpkegaa.L
open Go

/-- Behind the others comes z. -/
def Tail (P : Program) (z : Oper) (Q : Exit → Act → World → Prop) : Exit → Act → World → Prop
  | .normal, a, w => z.wp P a w (fun a' w' => Q .normal a' w') Q
  | e, a, w => Q e a w

section
variable {P : Program} {md : Region.Mode} {hd : Array Oper} {z : Oper} {Q : Exit → Act → World → Prop}

theorem wanted_none {o : Oper} (h : o.guard = none) (y : Nat → Option Bool) : Region.wanted o y = true := by simp [Region.wanted, h]
theorem wp_tail {o : Oper} {a : Act} {w : World} {K : Act → World → Prop} (h : o.wp P a w K (Tail P z Q)) : o.wp P a w K Q := by
  unfold Oper.wp at *
  generalize (execOp a.eval o).run P w = r at *
  cases r with
  | ok n w' =>
    cases n <;> simp only [Oper.upon] at h ⊢ <;>
      first
        | exact h
        | exact Calls.mono h (fun e w'' he => by cases e <;> exact he)
  | halt x w' => cases x <;> simp only [Oper.upon] at h ⊢ <;> exact h
theorem wpOp_tail {i : Nat} {K K' : Act → World → Prop} {a : Act} {w : World} (hg : ∀ (o : Oper), hd[i]? = some o → o.guard = none) (hi : i < hd.size) (hK : ∀ a w, K a w → K' a w) (h : wpOp P hd (Tail P z Q) i K a w) : wpOp P (hd.push z) Q i K' a w := by
  have e : (hd.push z)[i]? = hd[i]? := by rw [Array.getElem?_push]; simp [Nat.ne_of_lt hi]
  unfold wpOp at *
  rw [e]
  cases ho : hd[i]? with
  | none => rw [ho] at h; exact hK _ _ h
  | some o =>
    rw [ho] at h
    have hn := hg o ho
    simp only [wanted_none hn, if_true] at h ⊢
    rcases h with h | ⟨h1, h2⟩
    · exact .inl (Oper.wp_mono hK (wp_tail h))
    · exact .inr ⟨h1, h2⟩

theorem getD_push_lt {l : Array Bool} {b d : Bool} {j : Nat} (h : j < l.size) : (l.push b).getD j d = l.getD j d := by
  simp [Array.getD, h, Nat.lt_succ_of_lt h, Array.getElem_push_lt]
theorem set_push {l : Array Bool} {b : Bool} {j : Nat} (h : j < l.size) : (l.push b).setIfInBounds j true = (l.setIfInBounds j true).push b := by
  apply Array.ext
  · simp
  · intro k h1 h2
    have q : k < l.size + 1 := by simpa using h1
    rw [Array.getElem_push]
    rw [Array.getElem_setIfInBounds (by simpa using q)]
    by_cases hkj : j = k
    · subst hkj
      simp [h]
    · by_cases hk : k < l.size
      · simp [hk, hkj, Array.getElem_push]
      · simp [hk, hkj, Array.getElem_push]

theorem getD_replicate_no (n j : Nat) : (Array.replicate n false).getD j false = false := by
  by_cases h : j < n
  · simp [Array.getD, h]
  · simp [Array.getD, h]
theorem all_listed (hb : ∀ (i : Nat) (o : Oper), hd[i]? = some o → ∀ e ∈ o.after, e.on < i) {l : Array Bool} (hl : l.size = hd.size) (hr : Region.ready md hd l = []) : ∀ i, i < hd.size → l.getD i false = true := by
  intro i
  induction i using Nat.strongRecOn with
  | _ i ih =>
    intro hi
    have hnot : i ∉ Region.ready md hd l := by rw [hr]; simp
    rw [mem_ready] at hnot
    cases h : l.getD i false with
    | true => rfl
    | false =>
      refine absurd ⟨?_, hd[i], Array.getElem?_eq_getElem hi, fun e he _ => ?_⟩ hnot
      · rw [← h]; simp [Array.getD, hl, hi]
      · have := hb i hd[i] (Array.getElem?_eq_getElem hi) e he
        exact ih e.on this (by omega)
theorem none_ready {l : Array Bool} (hl : l.size = hd.size) (h : ∀ i, i < hd.size → l.getD i false = true) : Region.ready md hd l = [] := by
  apply List.eq_nil_iff_forall_not_mem.2
  intro i hi
  rw [mem_ready] at hi
  obtain ⟨h0, o, ho, _⟩ := hi
  have hlt := (Array.getElem?_eq_some_iff.1 ho).1
  have := h i hlt
  simp [Array.getD, hl, hlt] at h0 this
  rw [h0] at this; cases this

/-- What has come up is closed: all that it waits for has come up. -/
def Closed (md : Region.Mode) (hd : Array Oper) (l : Array Bool) : Prop := ∀ (j : Nat) (o : Oper), hd[j]? = some o → l.getD j false = true → ∀ e ∈ o.after, Region.binds md e = true → l.getD e.on false = true
theorem Closed.set {l : Array Bool} (h : Closed md hd l) {i : Nat} (hi : i ∈ Region.ready md hd l) : Closed md hd (l.setIfInBounds i true) := by
  intro j o ho hj e he hb
  by_cases hij : i = j
  · subst hij
    obtain ⟨_, o', ho', hall⟩ := mem_ready.1 hi
    rw [ho] at ho'
    obtain rfl := Option.some.inj ho'
    exact getD_set_true (hall e he hb)
  · rw [getD_set_ne false hij] at hj
    exact getD_set_true (h j o ho hj e he hb)
theorem Closed.start {n : Nat} : Closed md hd (Array.replicate n false) := by
  intro j o ho hj
  rw [getD_replicate_no] at hj
  cases hj

theorem wpAny_tail (hz : z.guard = none) (hg : ∀ (i : Nat) (o : Oper), hd[i]? = some o → o.guard = none) (hw : ∀ i, i < hd.size → (∃ e ∈ z.after, Region.binds md e = true ∧ e.on = i) ∨ ∃ (j : Nat) (o : Oper), hd[j]? = some o ∧ (∃ e ∈ o.after, Region.binds md e = true ∧ e.on = i) ∧ ∃ e ∈ z.after, Region.binds md e = true ∧ e.on = j) (hzb : ∀ e ∈ z.after, e.on < hd.size) (hb : ∀ (i : Nat) (o : Oper), hd[i]? = some o → ∀ e ∈ o.after, e.on < i) :
    ∀ (fuel : Nat) (l : Array Bool) (a : Act) (w : World), l.size = hd.size → Closed md hd l → wpAny P md hd (Tail P z Q) fuel l a w → wpAny P md (hd.push z) Q (fuel + 1) (l.push false) a w := by
  have rd : ∀ (l : Array Bool), l.size = hd.size → ∀ j, j < hd.size → (j ∈ Region.ready md (hd.push z) (l.push false) ↔ j ∈ Region.ready md hd l) := by
    intro l hl j hj
    rw [mem_ready, mem_ready, getD_push_lt (by omega), Array.getElem?_push]
    simp only [Nat.ne_of_lt hj, if_false]
    constructor
    · rintro ⟨h0, o, ho, hall⟩
      exact ⟨h0, o, ho, fun e he hbi => by have := hall e he hbi; rwa [getD_push_lt (by have := hb j o ho e he; omega)] at this⟩
    · rintro ⟨h0, o, ho, hall⟩
      exact ⟨h0, o, ho, fun e he hbi => by rw [getD_push_lt (by have := hb j o ho e he; omega)]; exact hall e he hbi⟩
  have rn : ∀ (l : Array Bool), l.size = hd.size → Closed md hd l → ∀ j, j ∈ Region.ready md (hd.push z) (l.push false) → ¬ j < hd.size → j = hd.size ∧ ∀ i, i < hd.size → l.getD i false = true := by
    intro l hl hcl j hj hn
    rw [mem_ready] at hj
    obtain ⟨h0, o, ho, hall⟩ := hj
    have hlt := (Array.getElem?_eq_some_iff.1 ho).1
    simp only [Array.size_push] at hlt
    have hjn : j = hd.size := by omega
    subst hjn
    rw [Array.getElem?_push] at ho
    simp at ho; subst ho
    refine ⟨rfl, fun i hi => ?_⟩
    rcases hw i hi with ⟨e, he, hbi, rfl⟩ | ⟨j, o, hjo, ⟨e1, he1, hb1, rfl⟩, e, he, hbi, rfl⟩
    · have := hall e he hbi
      rwa [getD_push_lt (by omega)] at this
    · have hjl := (Array.getElem?_eq_some_iff.1 hjo).1
      have := hall e he hbi
      rw [getD_push_lt (by omega)] at this
      exact hcl _ o hjo this e1 he1 hb1
  have rz : ∀ (l : Array Bool), l.size = hd.size → (∀ i, i < hd.size → l.getD i false = true) → hd.size ∈ Region.ready md (hd.push z) (l.push false) := by
    intro l hl h
    rw [mem_ready]
    refine ⟨by simp [Array.getD, ← hl], z, by rw [Array.getElem?_push]; simp, fun e he _ => ?_⟩
    rw [getD_push_lt (by have := hzb e he; omega)]
    exact h _ (hzb e he)
  have fin : ∀ (fuel : Nat) (l : Array Bool) (a : Act) (w : World), l.size = hd.size → (∀ i, i < hd.size → l.getD i false = true) → z.wp P a w (fun a' w' => Q .normal a' w') Q → wpOp P (hd.push z) Q hd.size (wpAny P md (hd.push z) Q fuel ((l.push false).setIfInBounds hd.size true)) a w := by
    intro fuel l a w hl h hq
    unfold wpOp
    rw [show (hd.push z)[hd.size]? = some z from by rw [Array.getElem?_push]; simp]
    simp only [wanted_none hz, if_true]
    refine .inl (Oper.wp_mono (fun a' w' hq => wpAny_done ?_ hq fuel) hq)
    apply List.eq_nil_iff_forall_not_mem.2
    intro j hj
    rw [mem_ready] at hj
    obtain ⟨h0, o, ho, _⟩ := hj
    have hlt := (Array.getElem?_eq_some_iff.1 ho).1
    simp only [Array.size_push] at hlt
    by_cases hjn : j = hd.size
    · subst hjn
      simp [Array.getD, hl] at h0
    · have hj' : j < hd.size := by omega
      rw [getD_set_ne true (Ne.symm hjn), getD_push_lt (by omega)] at h0
      have := h j hj'
      simp [Array.getD, hl, hj'] at h0 this
      rw [h0] at this; cases this
  intro fuel
  induction fuel with
  | zero =>
    intro l a w hl hcl h
    have hall := all_listed hb hl h.1
    refine ⟨fun h0 => ?_, fun i hi => ?_⟩
    · have := rz l hl hall; rw [h0] at this; cases this
    · by_cases hin : i < hd.size
      · rw [rd l hl i hin, h.1] at hi; cases hi
      · obtain ⟨rfl, _⟩ := rn l hl hcl i hi hin
        exact fin 0 l a w hl hall h.2
  | succ fuel ih =>
    intro l a w hl hcl h
    refine ⟨fun h0 => ?_, fun i hi => ?_⟩
    · by_cases hr : Region.ready md hd l = []
      · have := rz l hl (all_listed hb hl hr); rw [h0] at this; cases this
      · obtain ⟨j, hj⟩ := List.exists_mem_of_ne_nil _ hr
        have hjl : j < hd.size := by
          have hj2 := hj
          rw [mem_ready] at hj2
          obtain ⟨_, o, ho, _⟩ := hj2
          exact (Array.getElem?_eq_some_iff.1 ho).1
        have := (rd l hl j hjl).2 hj
        rw [h0] at this; cases this
    · by_cases hin : i < hd.size
      · rw [set_push (by omega)]
        exact wpOp_tail (hg i) hin (fun a w hh => ih (l.setIfInBounds i true) a w (by simpa using hl) (hcl.set ((rd l hl i hin).1 hi)) hh) (h.2 i ((rd l hl i hin).1 hi))
      · obtain ⟨rfl, hall⟩ := rn l hl hcl i hi hin
        exact fin (fuel + 1) l a w hl hall (h.1 (none_ready hl hall))
end

/-- The conditions, as one Bool. -/
def tailB (ops : Array Oper) (z : Oper) : Bool :=
  z.guard.isNone && ((List.range ops.size).all fun i => (z.after.any fun e => Region.binds .any e && e.on == i) || (List.range ops.size).any fun j => (z.after.any fun e => Region.binds .any e && e.on == j) && ((ops[j]?).map fun o => o.after.any fun e => Region.binds .any e && e.on == i).getD false) && (z.after.all fun e => decide (e.on < ops.size)) &&
    ((List.range ops.size).all fun i => ((ops[i]?).map fun o => o.guard.isNone && o.after.all fun e => decide (e.on < i)).getD true)
theorem wp_region_tail {P : Program} {id : Nat} {ops : Array Oper} {z : Oper} {Q : Exit → Act → World → Prop} {S : World → Prop} {a : Act} {w : World} (hm : P.follows .mixedOrders = true) (ht : tailB ops z = true) (hS : S w.drew)
    (h : S w.drew → wpAnyH P .any ops (Tail P z Q) S ops.size (Array.replicate ops.size false) a w.drew) : (Code.region id (ops.push z) true).wp P Q a w := by
  unfold tailB at ht
  simp only [Bool.and_eq_true, List.all_eq_true, List.mem_range, Bool.or_eq_true, List.any_eq_true, Array.all_eq_true_iff_forall_mem, Array.any_eq_true', decide_eq_true_eq, beq_iff_eq, Option.isNone_iff_eq_none] at ht
  obtain ⟨⟨⟨h1, h2⟩, h3⟩, h4⟩ := ht
  have hx : ∀ (i : Nat) (o : Oper), ops[i]? = some o → o.guard = none ∧ ∀ e ∈ o.after, e.on < i := fun i o ho => by
    have := h4 i (Array.getElem?_eq_some_iff.1 ho).1
    rw [ho] at this
    simp only [Option.map_some, Option.getD_some, Bool.and_eq_true, Array.all_eq_true_iff_forall_mem, Option.isNone_iff_eq_none, decide_eq_true_eq] at this
    exact this
  refine wp_region_any hm ?_
  have := wpAny_tail (md := .any) h1 (fun i o ho => (hx i o ho).1) (fun i hi => by
    rcases h2 i hi with ⟨e, he, q⟩ | ⟨j, hj, ⟨e, he, q⟩, r⟩
    · exact .inl ⟨e, he, q.1, q.2⟩
    · rw [Array.getElem?_eq_getElem hj] at r
      simp only [Option.map_some, Option.getD_some, Array.any_eq_true', Bool.and_eq_true, beq_iff_eq] at r
      obtain ⟨e1, he1, q1⟩ := r
      exact .inr ⟨j, ops[j], Array.getElem?_eq_getElem hj, ⟨e1, he1, q1.1, q1.2⟩, e, he, q.1, q.2⟩) h3 (fun i o ho => (hx i o ho).2) ops.size (Array.replicate ops.size false) a w.drew (by simp) Closed.start (wpAny_of_held _ _ _ _ (h hS))
  have e1 : (Array.replicate ops.size false).push false = Array.replicate (ops.push z).size false := by
    rw [Array.size_push, Array.replicate_succ]
  rw [e1] at this
  rw [show (ops.push z).size = ops.size + 1 from Array.size_push ..]
  rw [Array.size_push] at this
  exact this
theorem wp_region_tailL {P : Program} {id : Nat} {l : List Oper} {Q : Exit → Act → World → Prop} {S : World → Prop} {a : Act} {w : World} (hm : P.follows .mixedOrders = true) (hne : l ≠ []) (ht : tailB l.dropLast.toArray (l.getLast hne) = true) (hS : S w.drew)
    (h : S w.drew → wpAnyH P .any l.dropLast.toArray (Tail P (l.getLast hne) Q) S (l.length - 1) (Array.replicate (l.length - 1) false) a w.drew) : (Code.region id l.toArray true).wp P Q a w := by
  have e : l.toArray = l.dropLast.toArray.push (l.getLast hne) := by rw [List.push_toArray, List.dropLast_concat_getLast hne]
  rw [e]
  refine wp_region_tail hm ht hS (fun hs => ?_)
  have := h hs
  rw [show l.dropLast.toArray.size = l.length - 1 from by simp]
  exact this
end Go.Proofs.Yteekpdlkdpkegaa.L
