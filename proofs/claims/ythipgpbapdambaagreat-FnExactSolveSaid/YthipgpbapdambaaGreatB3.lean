/- B3: Tail Drn Foot FootM HeldS -/
import Derived.Deep.RegionHeld3
import Derived.Test.YthipgpbapdambaaGreatB2
import Derived.Maps.AppendAt
import Derived.Deep.AppendLies
set_option linter.unusedVariables false
set_option linter.unusedSimpArgs false
/- A region that draws its order and ends in one operation that waits for all the others: the others in whatever order, under a condition on the world, and then that one, under none. -/
namespace Go.Proofs.YthipgpbapdambaaGreat.L
open Go

/-- Behind the others comes z. -/
def Tail (P : Program) (z : Oper) (Q : Exit → Act → World → Prop) : Exit → Act → World → Prop
 | .normal, a, w => z.wp P a w (fun a' w' => Q .normal a' w') Q
 | e, a, w => Q e a w

section
variable {P : Program} {md : Region.Mode} {hd : Array Oper} {z : Oper} {Q : Exit → Act → World → Prop}

theorem wanted_none {o : Oper} (h : o.guard = none) (y : Nat → Option Bool) : Region.wanted o y = true := by simp [Region.wanted, h]
theorem wp_tail {o : Oper} {a : Act} {w : World} {K : Act → World → Prop} (h : o.wp P a w K (Tail P z Q)) : o.wp P a w K Q := by
 unfold Oper.wp at *
 generalize (execOp a.eval o).run P w = r at *
 cases r with
 | ok n w' =>
  cases n <;> simp only [Oper.upon] at h ⊢ <;>
   first
    | exact h
    | exact Calls.mono h (fun e w'' he => by cases e <;> exact he)
 | halt x w' => cases x <;> simp only [Oper.upon] at h ⊢ <;> exact h
theorem wpOp_tail {i : Nat} {K K' : Act → World → Prop} {a : Act} {w : World} (hg : ∀ (o : Oper), hd[i]? = some o → o.guard = none) (hi : i < hd.size) (hK : ∀ a w, K a w → K' a w) (h : wpOp P hd (Tail P z Q) i K a w) : wpOp P (hd.push z) Q i K' a w := by
 have e : (hd.push z)[i]? = hd[i]? := by rw [Array.getElem?_push]; simp [Nat.ne_of_lt hi]
 unfold wpOp at *
 rw [e]
 cases ho : hd[i]? with
 | none => rw [ho] at h; exact hK _ _ h
 | some o =>
  rw [ho] at h
  have hn := hg o ho
  simp only [wanted_none hn, if_true] at h ⊢
  rcases h with h | ⟨h1, h2⟩
  ·exact .inl (Oper.wp_mono hK (wp_tail h))
  ·exact .inr ⟨h1, h2⟩

theorem getD_push_lt {l : Array Bool} {b d : Bool} {j : Nat} (h : j < l.size) : (l.push b).getD j d = l.getD j d := by
 simp [Array.getD, h, Nat.lt_succ_of_lt h, Array.getElem_push_lt]
theorem set_push {l : Array Bool} {b : Bool} {j : Nat} (h : j < l.size) : (l.push b).setIfInBounds j true = (l.setIfInBounds j true).push b := by
 apply Array.ext
 ·simp
 ·intro k h1 h2
  have q : k < l.size + 1 := by simpa using h1
  rw [Array.getElem_push]
  rw [Array.getElem_setIfInBounds (by simpa using q)]
  by_cases hkj : j = k
  ·subst hkj
   simp [h]
  ·by_cases hk : k < l.size
   ·simp [hk, hkj, Array.getElem_push]
   ·simp [hk, hkj, Array.getElem_push]

theorem getD_replicate_no (n j : Nat) : (Array.replicate n false).getD j false = false := by
 by_cases h : j < n
 ·simp [Array.getD, h]
 ·simp [Array.getD, h]
theorem all_listed (hb : ∀ (i : Nat) (o : Oper), hd[i]? = some o → ∀ e ∈ o.after, e.on < i) {l : Array Bool} (hl : l.size = hd.size) (hr : Region.ready md hd l = []) : ∀ i, i < hd.size → l.getD i false = true := by
 intro i
 induction i using Nat.strongRecOn with
 | _ i ih =>
  intro hi
  have hnot : i ∉ Region.ready md hd l := by rw [hr]; simp
  rw [mem_ready] at hnot
  cases h : l.getD i false with
  | true => rfl
  | false =>
   refine absurd ⟨?_, hd[i], Array.getElem?_eq_getElem hi, fun e he _ => ?_⟩ hnot
   ·rw [← h]; simp [Array.getD, hl, hi]
   ·have := hb i hd[i] (Array.getElem?_eq_getElem hi) e he
    exact ih e.on this (by omega)
theorem none_ready {l : Array Bool} (hl : l.size = hd.size) (h : ∀ i, i < hd.size → l.getD i false = true) : Region.ready md hd l = [] := by
 apply List.eq_nil_iff_forall_not_mem.2
 intro i hi
 rw [mem_ready] at hi
 obtain ⟨h0, o, ho, _⟩ := hi
 have hlt := (Array.getElem?_eq_some_iff.1 ho).1
 have := h i hlt
 simp [Array.getD, hl, hlt] at h0 this
 rw [h0] at this; cases this

/-- What has come up is closed: all that it waits for has come up. -/
def Closed (md : Region.Mode) (hd : Array Oper) (l : Array Bool) : Prop := ∀ (j : Nat) (o : Oper), hd[j]? = some o → l.getD j false = true → ∀ e ∈ o.after, Region.binds md e = true → l.getD e.on false = true
theorem Closed.set {l : Array Bool} (h : Closed md hd l) {i : Nat} (hi : i ∈ Region.ready md hd l) : Closed md hd (l.setIfInBounds i true) := by
 intro j o ho hj e he hb
 by_cases hij : i = j
 ·subst hij
  obtain ⟨_, o', ho', hall⟩ := mem_ready.1 hi
  rw [ho] at ho'
  obtain rfl := Option.some.inj ho'
  exact getD_set_true (hall e he hb)
 ·rw [getD_set_ne false hij] at hj
  exact getD_set_true (h j o ho hj e he hb)
theorem Closed.start {n : Nat} : Closed md hd (Array.replicate n false) := by
 intro j o ho hj
 rw [getD_replicate_no] at hj
 cases hj

theorem wpAny_tail (hz : z.guard = none) (hg : ∀ (i : Nat) (o : Oper), hd[i]? = some o → o.guard = none) (hw : ∀ i, i < hd.size → (∃ e ∈ z.after, Region.binds md e = true ∧ e.on = i) ∨ ∃ (j : Nat) (o : Oper), hd[j]? = some o ∧ (∃ e ∈ o.after, Region.binds md e = true ∧ e.on = i) ∧ ∃ e ∈ z.after, Region.binds md e = true ∧ e.on = j) (hzb : ∀ e ∈ z.after, e.on < hd.size) (hb : ∀ (i : Nat) (o : Oper), hd[i]? = some o → ∀ e ∈ o.after, e.on < i) :
  ∀ (fuel : Nat) (l : Array Bool) (a : Act) (w : World), l.size = hd.size → Closed md hd l → wpAny P md hd (Tail P z Q) fuel l a w → wpAny P md (hd.push z) Q (fuel + 1) (l.push false) a w := by
 have rd : ∀ (l : Array Bool), l.size = hd.size → ∀ j, j < hd.size → (j ∈ Region.ready md (hd.push z) (l.push false) ↔ j ∈ Region.ready md hd l) := by
  intro l hl j hj
  rw [mem_ready, mem_ready, getD_push_lt (by omega), Array.getElem?_push]
  simp only [Nat.ne_of_lt hj, if_false]
  constructor
  ·rintro ⟨h0, o, ho, hall⟩
   exact ⟨h0, o, ho, fun e he hbi => by have := hall e he hbi; rwa [getD_push_lt (by have := hb j o ho e he; omega)] at this⟩
  ·rintro ⟨h0, o, ho, hall⟩
   exact ⟨h0, o, ho, fun e he hbi => by rw [getD_push_lt (by have := hb j o ho e he; omega)]; exact hall e he hbi⟩
 have rn : ∀ (l : Array Bool), l.size = hd.size → Closed md hd l → ∀ j, j ∈ Region.ready md (hd.push z) (l.push false) → ¬ j < hd.size → j = hd.size ∧ ∀ i, i < hd.size → l.getD i false = true := by
  intro l hl hcl j hj hn
  rw [mem_ready] at hj
  obtain ⟨h0, o, ho, hall⟩ := hj
  have hlt := (Array.getElem?_eq_some_iff.1 ho).1
  simp only [Array.size_push] at hlt
  have hjn : j = hd.size := by omega
  subst hjn
  rw [Array.getElem?_push] at ho
  simp at ho; subst ho
  refine ⟨rfl, fun i hi => ?_⟩
  rcases hw i hi with ⟨e, he, hbi, rfl⟩ | ⟨j, o, hjo, ⟨e1, he1, hb1, rfl⟩, e, he, hbi, rfl⟩
  ·have := hall e he hbi
   rwa [getD_push_lt (by omega)] at this
  ·have hjl := (Array.getElem?_eq_some_iff.1 hjo).1
   have := hall e he hbi
   rw [getD_push_lt (by omega)] at this
   exact hcl _ o hjo this e1 he1 hb1
 have rz : ∀ (l : Array Bool), l.size = hd.size → (∀ i, i < hd.size → l.getD i false = true) → hd.size ∈ Region.ready md (hd.push z) (l.push false) := by
  intro l hl h
  rw [mem_ready]
  refine ⟨by simp [Array.getD, ← hl], z, by rw [Array.getElem?_push]; simp, fun e he _ => ?_⟩
  rw [getD_push_lt (by have := hzb e he; omega)]
  exact h _ (hzb e he)
 have fin : ∀ (fuel : Nat) (l : Array Bool) (a : Act) (w : World), l.size = hd.size → (∀ i, i < hd.size → l.getD i false = true) → z.wp P a w (fun a' w' => Q .normal a' w') Q → wpOp P (hd.push z) Q hd.size (wpAny P md (hd.push z) Q fuel ((l.push false).setIfInBounds hd.size true)) a w := by
  intro fuel l a w hl h hq
  unfold wpOp
  rw [show (hd.push z)[hd.size]? = some z from by rw [Array.getElem?_push]; simp]
  simp only [wanted_none hz, if_true]
  refine .inl (Oper.wp_mono (fun a' w' hq => wpAny_done ?_ hq fuel) hq)
  apply List.eq_nil_iff_forall_not_mem.2
  intro j hj
  rw [mem_ready] at hj
  obtain ⟨h0, o, ho, _⟩ := hj
  have hlt := (Array.getElem?_eq_some_iff.1 ho).1
  simp only [Array.size_push] at hlt
  by_cases hjn : j = hd.size
  ·subst hjn
   simp [Array.getD, hl] at h0
  ·have hj' : j < hd.size := by omega
   rw [getD_set_ne true (Ne.symm hjn), getD_push_lt (by omega)] at h0
   have := h j hj'
   simp [Array.getD, hl, hj'] at h0 this
   rw [h0] at this; cases this
 intro fuel
 induction fuel with
 | zero =>
  intro l a w hl hcl h
  have hall := all_listed hb hl h.1
  refine ⟨fun h0 => ?_, fun i hi => ?_⟩
  ·have := rz l hl hall; rw [h0] at this; cases this
  ·by_cases hin : i < hd.size
   ·rw [rd l hl i hin, h.1] at hi; cases hi
   ·obtain ⟨rfl, _⟩ := rn l hl hcl i hi hin
    exact fin 0 l a w hl hall h.2
 | succ fuel ih =>
  intro l a w hl hcl h
  refine ⟨fun h0 => ?_, fun i hi => ?_⟩
  ·by_cases hr : Region.ready md hd l = []
   ·have := rz l hl (all_listed hb hl hr); rw [h0] at this; cases this
   ·obtain ⟨j, hj⟩ := List.exists_mem_of_ne_nil _ hr
    have hjl : j < hd.size := by
     have hj2 := hj
     rw [mem_ready] at hj2
     obtain ⟨_, o, ho, _⟩ := hj2
     exact (Array.getElem?_eq_some_iff.1 ho).1
    have := (rd l hl j hjl).2 hj
    rw [h0] at this; cases this
  ·by_cases hin : i < hd.size
   ·rw [set_push (by omega)]
    exact wpOp_tail (hg i) hin (fun a w hh => ih (l.setIfInBounds i true) a w (by simpa using hl) (hcl.set ((rd l hl i hin).1 hi)) hh) (h.2 i ((rd l hl i hin).1 hi))
   ·obtain ⟨rfl, hall⟩ := rn l hl hcl i hi hin
    exact fin (fuel + 1) l a w hl hall (h.1 (none_ready hl hall))
end

/-- The conditions, as one Bool. -/
def tailB (ops : Array Oper) (z : Oper) : Bool :=
 z.guard.isNone && ((List.range ops.size).all fun i => (z.after.any fun e => Region.binds .any e && e.on == i) || (List.range ops.size).any fun j => (z.after.any fun e => Region.binds .any e && e.on == j) && ((ops[j]?).map fun o => o.after.any fun e => Region.binds .any e && e.on == i).getD false) && (z.after.all fun e => decide (e.on < ops.size)) &&
  ((List.range ops.size).all fun i => ((ops[i]?).map fun o => o.guard.isNone && o.after.all fun e => decide (e.on < i)).getD true)
theorem wp_region_tail {P : Program} {id : Nat} {ops : Array Oper} {z : Oper} {Q : Exit → Act → World → Prop} {S : World → Prop} {a : Act} {w : World} (hm : P.follows .mixedOrders = true) (ht : tailB ops z = true) (hS : S w.drew)
  (h : S w.drew → wpAnyH P .any ops (Tail P z Q) S ops.size (Array.replicate ops.size false) a w.drew) : (Code.region id (ops.push z) true).wp P Q a w := by
 unfold tailB at ht
 simp only [Bool.and_eq_true, List.all_eq_true, List.mem_range, Bool.or_eq_true, List.any_eq_true, Array.all_eq_true_iff_forall_mem, Array.any_eq_true', decide_eq_true_eq, beq_iff_eq, Option.isNone_iff_eq_none] at ht
 obtain ⟨⟨⟨h1, h2⟩, h3⟩, h4⟩ := ht
 have hx : ∀ (i : Nat) (o : Oper), ops[i]? = some o → o.guard = none ∧ ∀ e ∈ o.after, e.on < i := fun i o ho => by
  have := h4 i (Array.getElem?_eq_some_iff.1 ho).1
  rw [ho] at this
  simp only [Option.map_some, Option.getD_some, Bool.and_eq_true, Array.all_eq_true_iff_forall_mem, Option.isNone_iff_eq_none, decide_eq_true_eq] at this
  exact this
 refine wp_region_any hm ?_
 have := wpAny_tail (md := .any) h1 (fun i o ho => (hx i o ho).1) (fun i hi => by
  rcases h2 i hi with ⟨e, he, q⟩ | ⟨j, hj, ⟨e, he, q⟩, r⟩
  ·exact .inl ⟨e, he, q.1, q.2⟩
  ·rw [Array.getElem?_eq_getElem hj] at r
   simp only [Option.map_some, Option.getD_some, Array.any_eq_true', Bool.and_eq_true, beq_iff_eq] at r
   obtain ⟨e1, he1, q1⟩ := r
   exact .inr ⟨j, ops[j], Array.getElem?_eq_getElem hj, ⟨e1, he1, q1.1, q1.2⟩, e, he, q.1, q.2⟩) h3 (fun i o ho => (hx i o ho).2) ops.size (Array.replicate ops.size false) a w.drew (by simp) Closed.start (wpAny_of_held _ _ _ _ (h hS))
 have e1 : (Array.replicate ops.size false).push false = Array.replicate (ops.push z).size false := by
  rw [Array.size_push, Array.replicate_succ]
 rw [e1] at this
 rw [show (ops.push z).size = ops.size + 1 from Array.size_push ..]
 rw [Array.size_push] at this
 exact this
theorem wp_region_tailL {P : Program} {id : Nat} {l : List Oper} {Q : Exit → Act → World → Prop} {S : World → Prop} {a : Act} {w : World} (hm : P.follows .mixedOrders = true) (hne : l ≠ []) (ht : tailB l.dropLast.toArray (l.getLast hne) = true) (hS : S w.drew)
  (h : S w.drew → wpAnyH P .any l.dropLast.toArray (Tail P (l.getLast hne) Q) S (l.length - 1) (Array.replicate (l.length - 1) false) a w.drew) : (Code.region id l.toArray true).wp P Q a w := by
 have e : l.toArray = l.dropLast.toArray.push (l.getLast hne) := by rw [List.push_toArray, List.dropLast_concat_getLast hne]
 rw [e]
 refine wp_region_tail hm ht hS (fun hs => ?_)
 have := h hs
 rw [show l.dropLast.toArray.size = l.length - 1 from by simp]
 exact this
end Go.Proofs.YthipgpbapdambaaGreat.L

/- A region that draws its order, by an invariant over what has come up so far: each operation once, in whatever state it may come up; no ways that multiply. -/
namespace Go.Proofs.YthipgpbapdambaaGreat.L
open Go
set_option linter.unusedVariables false
set_option linter.unusedSimpArgs false

/-- What has come up, and number i. -/
def upd (d : Nat → Bool) (i : Nat) : Nat → Bool := fun j => if j = i then true else d j
/-- All that o waits for has come up. -/
def Deps (o : Oper) (d : Nat → Bool) : Prop := ∀ e ∈ o.after, Region.binds .any e = true → d e.on = true
def depsL (o : Oper) : List Nat := (o.after.toList.filter (Region.binds .any)).map (·.on)
theorem Deps.all {o : Oper} {d : Nat → Bool} (h : Deps o d) {l : List Nat} (hl : depsL o = l) : ∀ j ∈ l, d j = true := by
 subst hl
 intro j hj
 simp only [depsL, List.mem_map, List.mem_filter, Array.mem_toList_iff] at hj
 obtain ⟨e, ⟨h1, h2⟩, rfl⟩ := hj
 exact h e h1 h2

section
variable {P : Program} {ops : Array Oper} {Q : Exit → Act → World → Prop}
/-- Each operation keeps the invariant. -/
def StepsI (P : Program) (Q : Exit → Act → World → Prop) (I : (Nat → Bool) → Act → World → Prop) : Nat → List Oper → Prop
 | _, [] => True
 | i, o :: r => (∀ d a w, d i = false → Deps o d → I d a w → o.wp P a w (fun a' w' => I (upd d i) a' w') Q) ∧ StepsI P Q I (i + 1) r
theorem StepsI.get {I : (Nat → Bool) → Act → World → Prop} : ∀ {l : List Oper} {i : Nat}, StepsI P Q I i l → ∀ {k : Nat} {o : Oper}, l[k]? = some o → ∀ d a w, d (i + k) = false → Deps o d → I d a w → o.wp P a w (fun a' w' => I (upd d (i + k)) a' w') Q
 | [], _, _, k, o, h => by simp at h
 | x :: r, i, h, 0, o, ho => by
  simp only [List.getElem?_cons_zero, Option.some.injEq] at ho
  subst ho; exact h.1
 | x :: r, i, h, k + 1, o, ho => by
  simp only [List.getElem?_cons_succ] at ho
  have := StepsI.get h.2 ho
  rw [show i + 1 + k = i + (k + 1) from by omega] at this
  exact this

theorem wpAny_inv {I : (Nat → Bool) → Act → World → Prop} (hg : ∀ (i : Nat) (o : Oper), ops[i]? = some o → o.guard = none ∧ ∀ e ∈ o.after, Region.binds .any e = true → e.on < i) (hs : StepsI P Q I 0 ops.toList)
  (he : ∀ d a w, (∀ j, j < ops.size → d j = true) → I d a w → Q .normal a w) :
  ∀ (fuel : Nat) (l : Array Bool) (a : Act) (w : World), l.size = ops.size → l.toList.count false ≤ fuel → I (fun j => l.getD j false) a w → wpAny P .any ops Q fuel l a w := by
 have allL : ∀ (l : Array Bool), l.size = ops.size → Region.ready .any ops l = [] → ∀ i, i < ops.size → l.getD i false = true := by
  intro l hl hr i
  induction i using Nat.strongRecOn with
  | _ i ih =>
   intro hi
   have hnot : i ∉ Region.ready .any ops l := by rw [hr]; simp
   rw [mem_ready] at hnot
   cases h : l.getD i false with
   | true => rfl
   | false =>
    refine absurd ⟨?_, ops[i], Array.getElem?_eq_getElem hi, fun e he hb => ?_⟩ hnot
    ·rw [← h]; simp [Array.getD, hl, hi]
    ·have := (hg i ops[i] (Array.getElem?_eq_getElem hi)).2 e he hb
     exact ih e.on this (by omega)
 intro fuel
 induction fuel with
 | zero =>
  intro l a w hl hc hI
  have hall : ∀ j, j < ops.size → l.getD j false = true := by
   intro j hj
   have hjl : j < l.toList.length := by simpa [hl] using hj
   cases h : l.getD j false with
   | true => rfl
   | false =>
    have h0 : l.toList[j] = false := by
     have hj' : j < l.size := by omega
     rw [Array.getD, dif_pos hj'] at h
     simpa using h
    have : 0 < l.toList.count false := List.count_pos_iff.2 (h0 ▸ List.getElem_mem hjl)
    omega
  exact ⟨none_ready hl hall, he _ _ _ hall hI⟩
 | succ fuel ih =>
  intro l a w hl hc hI
  refine ⟨fun hr => he _ _ _ (allL l hl hr) hI, fun i hi => ?_⟩
  obtain ⟨h0, o, ho, hall⟩ := mem_ready.1 hi
  have hlt : i < ops.size := (Array.getElem?_eq_some_iff.1 ho).1
  have hil : i < l.size := by omega
  have h0' : l.getD i false = false := by
   rw [Array.getD, dif_pos hil] at h0 ⊢; exact h0
  unfold wpOp
  rw [ho]
  simp only [wanted_none (hg i o ho).1, if_true]
  have hst := StepsI.get hs (k := i) (o := o) (by rw [Array.getElem?_toList]; exact ho) (fun j => l.getD j false) a w (by rw [Nat.zero_add]; exact h0') hall hI
  rw [Nat.zero_add] at hst
  refine .inl (Oper.wp_mono ?_ hst)
  intro a' w' hI'
  refine ih _ _ _ (by simpa using hl) ?_ ?_
  ·rw [Array.toList_setIfInBounds, List.count_set (by simpa using hil)]
   have hx : l.toList[i]'(by simpa using hil) = false := by
    rw [Array.getD, dif_pos hil] at h0'; simpa using h0'
   have hp : 0 < l.toList.count false := List.count_pos_iff.2 (hx ▸ List.getElem_mem _)
   rw [hx, if_pos (by rfl), if_neg (by simp)]
   omega
  ·have e : (fun j => (l.setIfInBounds i true).getD j false) = upd (fun j => l.getD j false) i := by
    funext j
    unfold upd
    by_cases hj : j = i
    ·subst hj
     simp [Array.getD, hil]
    ·rw [getD_set_ne false (Ne.symm hj), if_neg hj]
   rw [e]
   exact hI'
end

/-- The conditions on the region, as one Bool. -/
def drawB (ops : List Oper) : Bool := (List.range ops.length).all fun i => ((ops[i]?).map fun o => o.guard.isNone && o.after.all fun e => !Region.binds .any e || decide (e.on < i)).getD true
theorem wp_region_inv {P : Program} {id : Nat} {ops : List Oper} {Q : Exit → Act → World → Prop} {a : Act} {w : World} (I : (Nat → Bool) → Act → World → Prop) (hm : P.follows .mixedOrders = true) (hd : drawB ops = true)
  (h0 : I (fun _ => false) a w.drew) (hs : StepsI P Q I 0 ops) (he : ∀ d a w, (∀ j, j < ops.length → d j = true) → I d a w → Q .normal a w) : (Code.region id ops.toArray true).wp P Q a w := by
 unfold drawB at hd
 simp only [List.all_eq_true, List.mem_range] at hd
 have hg : ∀ (i : Nat) (o : Oper), ops.toArray[i]? = some o → o.guard = none ∧ ∀ e ∈ o.after, Region.binds .any e = true → e.on < i := fun i o ho => by
  have ho' : ops[i]? = some o := by simpa using ho
  have := hd i (List.getElem?_eq_some_iff.1 ho').1
  rw [ho'] at this
  simp only [Option.map_some, Option.getD_some, Bool.and_eq_true, Array.all_eq_true_iff_forall_mem, Option.isNone_iff_eq_none, Bool.or_eq_true, Bool.not_eq_true', decide_eq_true_eq] at this
  exact ⟨this.1, fun e he hb => (this.2 e he).resolve_left (by simp [hb])⟩
 refine wp_region_any hm ?_
 refine wpAny_inv hg (by simpa using hs) (fun d a w h hI => he d a w (fun j hj => h j (by simpa using hj)) hI) ops.toArray.size (Array.replicate ops.toArray.size false) a _ (by simp) ?_ ?_
 ·refine Nat.le_trans List.count_le_length (by simp)
 ·have e : (fun j => (Array.replicate ops.toArray.size false).getD j false) = fun _ => false := by funext j; exact getD_replicate_no _ _
  rw [e]; exact h0

/-- The frame with new values in some slots. -/
def setF (a : Act) (ts : List Tmp) (u : Nat → Value) : Act := ts.foldl (fun a t => a.put (some t) (u t)) a
def updF (u : Nat → Value) (dst : Option Tmp) (v : Value) : Nat → Value := fun t => match dst with
 | some k => if t = k then v else u t
 | none => u t
theorem setF_size (ts : List Tmp) (u : Nat → Value) : ∀ a : Act, (setF a ts u).tmps.size = a.tmps.size := by
 induction ts with
 | nil => intro a; rfl
 | cons t r ih =>
  intro a
  show (setF (a.put (some t) (u t)) r u).tmps.size = _
  rw [ih]; simp [Act.put]
theorem setF_defers (ts : List Tmp) (u : Nat → Value) : ∀ a : Act, (setF a ts u).defers = a.defers := by
 induction ts with
 | nil => intro a; rfl
 | cons t r ih =>
  intro a
  show (setF (a.put (some t) (u t)) r u).defers = _
  rw [ih]; simp [Act.put]
theorem setF_get (ts : List Tmp) (u : Nat → Value) : ∀ (a : Act) (i : Nat), (setF a ts u).tmps[i]? = if i ∈ ts ∧ i < a.tmps.size then some (u i) else a.tmps[i]? := by
 induction ts with
 | nil => intro a i; simp [setF]
 | cons t r ih =>
  intro a i
  show (setF (a.put (some t) (u t)) r u).tmps[i]? = _
  rw [ih]
  have hs : (a.put (some t) (u t)).tmps.size = a.tmps.size := by simp [Act.put]
  rw [hs]
  by_cases hr : i ∈ r ∧ i < a.tmps.size
  ·rw [if_pos hr, if_pos ⟨List.mem_cons_of_mem _ hr.1, hr.2⟩]
  ·rw [if_neg hr]
   by_cases ht : i = t
   ·subst ht
    by_cases hi : i < a.tmps.size
    ·rw [if_pos ⟨List.mem_cons_self, hi⟩]
     simp [Act.put, hi]
    ·rw [if_neg (fun q => hi q.2)]
     simp [Act.put, hi]
   ·rw [if_neg (fun q => hr ⟨(List.mem_cons.1 q.1).resolve_left ht, q.2⟩)]
    simp [Act.put, Ne.symm ht]
theorem setF_put {ts : List Tmp} {u : Nat → Value} {a : Act} {dst : Option Tmp} {v : Value} (h : ∀ k, dst = some k → k ∈ ts) : (setF a ts u).put dst v = setF a ts (updF u dst v) := by
 cases dst with
 | none => rfl
 | some k =>
  have hk := h k rfl
  have e : ((setF a ts u).put (some k) v).tmps = (setF a ts (updF u (some k) v)).tmps := by
   apply Array.ext_getElem?
   intro i
   rw [setF_get]
   show ((setF a ts u).tmps.setIfInBounds k v)[i]? = _
   rw [Array.getElem?_setIfInBounds, setF_size, setF_get]
   by_cases hi : k = i
   ·subst hi
    rw [if_pos rfl]
    by_cases hl : k < a.tmps.size
    ·rw [if_pos hl, if_pos ⟨hk, hl⟩]; simp [updF]
    ·rw [if_neg hl, if_neg (fun q => hl q.2)]; simp [hl]
   ·rw [if_neg hi]
    simp [updF, Ne.symm hi]
  have e2 : ((setF a ts u).put (some k) v).defers = (setF a ts (updF u (some k) v)).defers := by rw [setF_defers]; simp [Act.put, setF_defers]
  cases h1 : (setF a ts u).put (some k) v
  cases h2 : setF a ts (updF u (some k) v)
  rw [h1, h2] at e e2
  simp at e e2
  rw [e, e2]

/-- What an operation yields and leaves, of whatever frame. -/
def wpvP (P : Program) (ρ : Operand → Value) (o : Oper) (w : World) (K : Value → World → Prop) : Prop :=
 match (execOp ρ o).run P w with
 | .ok (.value v) w' => K v w'
 | .ok .skip w' => K undef w'
 | .ok (.enter f args) w' => Calls P f args w' fun e w'' => ∃ v, e = .returned v ∧ K v w''
 | _ => False
structure Wpv (P : Program) (ρ : Operand → Value) (o : Oper) (w : World) (K : Value → World → Prop) : Prop where
 out : wpvP P ρ o w K
theorem Wpv.value {P : Program} {ρ : Operand → Value} {o : Oper} {w w' : World} {K : Value → World → Prop} {v : Value} (h : (execOp ρ o).run P w = .ok (.value v) w') (hk : K v w') : Wpv P ρ o w K := by
 refine ⟨?_⟩; unfold wpvP; rw [h]; exact hk
theorem Wpv.skip {P : Program} {ρ : Operand → Value} {o : Oper} {w w' : World} {K : Value → World → Prop} (h : (execOp ρ o).run P w = .ok .skip w') (hk : K undef w') : Wpv P ρ o w K := by
 refine ⟨?_⟩; unfold wpvP; rw [h]; exact hk
theorem Wpv.enter {P : Program} {ρ : Operand → Value} {o : Oper} {w w' : World} {K : Value → World → Prop} {f : FuncId} {args : Array Value} {R : Ending → World → Prop} (h : (execOp ρ o).run P w = .ok (.enter f args) w') (hc : Calls P f args w' R) (hk : ∀ e w'', R e w'' → ∃ v, e = .returned v ∧ K v w'') : Wpv P ρ o w K := by
 refine ⟨?_⟩; unfold wpvP; rw [h]; exact Calls.mono hc hk
theorem wp_of_wpv {P : Program} {Q : Exit → Act → World → Prop} {a : Act} {o : Oper} {w : World} {K : Act → World → Prop} (h : Wpv P a.eval o w fun v w' => K (a.put o.dst v) w') : o.wp P a w K Q := by
 unfold Oper.wp
 have h := h.out
 unfold wpvP at h
 split at h
 ·next e => rw [e]; exact h
 ·next e => rw [e]; exact h
 ·next e =>
  rw [e]
  refine Calls.mono h fun e' w'' he => ?_
  obtain ⟨v, rfl, hk⟩ := he
  exact hk
 ·exact h.elim

/-- What is there of a frame's slots. -/
theorem Wpv.env {P : Program} {a : Act} {ts : List Tmp} {u : Nat → Value} {o : Oper} {w : World} {K : Value → World → Prop} (h : ∀ ρ : Operand → Value, (∀ t, (ts.contains t && decide (t < a.tmps.size)) = true → ρ (.tmp t) = u t) → (∀ t, ts.contains t = false → ρ (.tmp t) = a.eval (.tmp t)) →
  (∀ c, ρ (.const c) = c) → (∀ f, ρ (.func f) = .func (.func f) #[] #[]) → Wpv P ρ o w K) : Wpv P (setF a ts u).eval o w K := by
 refine h _ (fun t ht => ?_) (fun t ht => ?_) (fun _ => rfl) (fun _ => rfl)
 ·simp only [Bool.and_eq_true, decide_eq_true_eq] at ht
  show (setF a ts u).tmps.getD t undef = u t
  have := setF_get ts u a t
  rw [if_pos ⟨by simpa using ht.1, ht.2⟩] at this
  simp [this]
 ·show (setF a ts u).tmps.getD t undef = a.tmps.getD t undef
  have := setF_get ts u a t
  rw [if_neg (fun q => by rw [List.contains_eq_mem] at ht; simp [q.1] at ht)] at this
  simp [this]
theorem Deps.get {o : Oper} {d : Nat → Bool} (h : Deps o d) {j : Nat} (hj : (o.after.toList.any fun e => Region.binds .any e && e.on == j) = true) : d j = true := by
 rw [List.any_eq_true] at hj
 obtain ⟨e, he, hb⟩ := hj
 simp only [Bool.and_eq_true, beq_iff_eq] at hb
 obtain ⟨hb, rfl⟩ := hb
 exact h e (by simpa using he) hb
/-- Each operation keeps what is said of the values and the world. -/
def StepsV (P : Program) (a : Act) (ts : List Tmp) (F : (Nat → Bool) → (Nat → Value) → World → Prop) : Nat → List Oper → Prop
 | _, [] => True
 | i, o :: r => (∀ d u w, d i = false → Deps o d → F d u w → Wpv P (setF a ts u).eval o w fun v w' => F (upd d i) (updF u o.dst v) w') ∧ StepsV P a ts F (i + 1) r
theorem StepsV.stepsI {P : Program} {Q : Exit → Act → World → Prop} {a : Act} {ts : List Tmp} {F : (Nat → Bool) → (Nat → Value) → World → Prop} : ∀ {l : List Oper} {i : Nat}, (∀ o ∈ l, ∀ k, o.dst = some k → k ∈ ts) → StepsV P a ts F i l → StepsI P Q (fun d b w => ∃ u, b = setF a ts u ∧ F d u w) i l
 | [], _, _, _ => trivial
 | o :: r, i, hl, h => ⟨fun d b w h0 hd hI => by
   obtain ⟨u, rfl, hF⟩ := hI
   refine wp_of_wpv ?_
   have := h.1 d u w h0 hd hF
   rw [show (fun v w' => ∃ u', ((setF a ts u).put o.dst v) = setF a ts u' ∧ F (upd d i) u' w') = (fun v w' => ∃ u', (setF a ts (updF u o.dst v)) = setF a ts u' ∧ F (upd d i) u' w') from by funext v w'; rw [setF_put (hl o (by simp))]]
   have hmono : ∀ {K K' : Value → World → Prop}, (∀ v w', K v w' → K' v w') → Wpv P (setF a ts u).eval o w K → Wpv P (setF a ts u).eval o w K' := by
    intro K K' hKK hw
    have hw := hw.out
    refine ⟨?_⟩
    unfold wpvP at hw ⊢
    split at hw
    ·exact hKK _ _ hw
    ·exact hKK _ _ hw
    ·exact Calls.mono hw fun e w'' ⟨v, he, hk⟩ => ⟨v, he, hKK _ _ hk⟩
    ·exact hw.elim
   exact hmono (fun v w' hk => ⟨_, rfl, hk⟩) this, StepsV.stepsI (fun o ho => hl o (List.mem_cons_of_mem _ ho)) h.2⟩
def dstB (ts : List Tmp) (ops : List Oper) : Bool := ops.all fun o => match o.dst with
 | some k => ts.contains k
 | none => true
/-- A region that draws its order, by what is said of its values and of the world. -/
theorem wp_region_drawn {P : Program} {id : Nat} {ops : List Oper} {Q : Exit → Act → World → Prop} {a : Act} {w : World} (ts : List Tmp) (F : (Nat → Bool) → (Nat → Value) → World → Prop) (hm : P.follows .mixedOrders = true) (hd : drawB ops = true) (ht : dstB ts ops = true)
  (h0 : ∀ u, F (fun _ => false) u w.drew) (hs : StepsV P a ts F 0 ops) (he : ∀ d u w, (∀ j, j < ops.length → d j = true) → F d u w → Q .normal (setF a ts u) w) : (Code.region id ops.toArray true).wp P Q a w := by
 refine wp_region_inv (fun d b w => ∃ u, b = setF a ts u ∧ F d u w) hm hd ⟨fun t => a.tmps.getD t undef, ?_, h0 _⟩ (hs.stepsI ?_) ?_
 ·have e : a.tmps = (setF a ts fun t => a.tmps.getD t undef).tmps := by
   apply Array.ext_getElem?
   intro i
   rw [setF_get]
   split
   ·next h => simp [h.2]
   ·rfl
  have e2 : a.defers = (setF a ts fun t => a.tmps.getD t undef).defers := (setF_defers _ _ _).symm
  cases h2 : setF a ts fun t => a.tmps.getD t undef
  cases a
  rw [h2] at e e2
  simp at e e2
  rw [e, e2]
 ·intro o ho k hk
  unfold dstB at ht
  have := List.all_eq_true.1 ht o ho
  rw [hk] at this
  simpa using this
 ·rintro d b w hall ⟨u, rfl, hF⟩
  exact he d u w hall hF
end Go.Proofs.YthipgpbapdambaaGreat.L

/- Footprints: what reads as a value and on which blocks that rests; slices of one's own that grow. -/
namespace Go.Proofs.YthipgpbapdambaaGreat.L
open Go.RowKit Go.Proofs.YthipgpbapdambaaGreat.S
set_option linter.unusedVariables false
set_option linter.unusedSimpArgs false

/-- The blocks of F are the same in both worlds. -/
def SameF (F : Nat → Prop) (w w' : World) : Prop := ∀ k, F k → w'.heap[k]? = w.heap[k]?
/-- Of the old blocks only those of F may have been written; new ones may have come. -/
structure OnlyF (F : Nat → Prop) (w w' : World) : Prop where
 os : w'.os = w.os
 tape : w'.tape = w.tape
 output : w'.output = w.output
 size : w.heap.size ≤ w'.heap.size
 block : ∀ k, k < w.heap.size → ¬ F k → w'.heap[k]? = w.heap[k]?
theorem OnlyF.refl (F : Nat → Prop) (w : World) : OnlyF F w w := ⟨rfl, rfl, rfl, Nat.le_refl _, fun _ _ _ => rfl⟩
theorem OnlyF.trans {F : Nat → Prop} {a b c : World} (h : OnlyF F a b) (k : OnlyF F b c) : OnlyF F a c :=
 ⟨k.os.trans h.os, k.tape.trans h.tape, k.output.trans h.output, Nat.le_trans h.size k.size, fun i hi ho => (k.block i (Nat.lt_of_lt_of_le hi h.size) ho).trans (h.block i hi ho)⟩
/-- The second step may also write blocks that the first one has made. -/
theorem OnlyF.trans2 {F F' : Nat → Prop} {a b c : World} (h : OnlyF F a b) (k : OnlyF F' b c) (hF : ∀ i, F' i → F i ∨ a.heap.size ≤ i) : OnlyF F a c :=
 ⟨k.os.trans h.os, k.tape.trans h.tape, k.output.trans h.output, Nat.le_trans h.size k.size, fun i hi ho => (k.block i (Nat.lt_of_lt_of_le hi h.size) (fun hf => by rcases hF i hf with q | q; exact ho q; omega)).trans (h.block i hi ho)⟩
theorem OnlyF.wide {F G : Nat → Prop} {w w' : World} (h : OnlyF F w w') (hFG : ∀ k, F k → G k) : OnlyF G w w' := ⟨h.os, h.tape, h.output, h.size, fun k hk hn => h.block k hk (fun q => hn (hFG k q))⟩
theorem OnlyF.of_below {F : Nat → Prop} {w w' : World} (h : Below w.heap.size w w') : OnlyF F w w' := ⟨h.os, h.tape, h.output, h.size, fun k hk _ => h.block k hk⟩
theorem OnlyF.of_only {F : Nat → Prop} {lo hi : Nat} {w w' : World} (h : Only lo hi w w') (hF : ∀ k, lo ≤ k → k < hi → F k) : OnlyF F w w' :=
 ⟨h.os, h.tape, h.output, h.size, fun k hk hn => h.block k hk (by by_cases h1 : lo ≤ k; by_cases h2 : k < hi; exact absurd (hF k h1 h2) hn; omega; omega)⟩
theorem OnlyF.only {F : Nat → Prop} {lo hi : Nat} {w w' : World} (h : OnlyF F w w') (hF : ∀ k, F k → lo ≤ k ∧ k < hi) : Only lo hi w w' :=
 ⟨h.os, h.tape, h.output, h.size, fun k hk ho => h.block k hk (fun q => by have := hF k q; omega)⟩
theorem OnlyF.below {F : Nat → Prop} {B : Nat} {w w' : World} (h : OnlyF F w w') (hF : ∀ k, F k → B ≤ k) (hs : B ≤ w.heap.size) : Below B w w' :=
 ⟨h.os, h.tape, h.output, h.size, fun k hk => h.block k (Nat.lt_of_lt_of_le hk hs) (fun q => by have := hF k q; omega)⟩
theorem OnlyF.setCell {F : Nat → Prop} {a w : World} (h : OnlyF F a w) {p : Addr} (h1 : F p.block) (u : Value) : OnlyF F a (w.setCell p u) :=
 h.trans ⟨rfl, rfl, rfl, by simp [World.setCell], fun k hk hn => Below.heap_setCell _ _ _ _ (by intro e; subst e; exact hn h1)⟩
theorem OnlyF.alloc {F : Nat → Prop} {a w : World} (h : OnlyF F a w) (o : Obj) : OnlyF F a (w.alloc o) := h.trans ⟨rfl, rfl, rfl, by simp, fun k hk _ => Below.heap_alloc _ _ _ hk⟩
theorem OnlyF.drew {F : Nat → Prop} {a w : World} (h : OnlyF F a w) : OnlyF F a w.drew := ⟨h.os, h.tape, h.output, h.size, h.block⟩
theorem OnlyF.drewN {F : Nat → Prop} {a w : World} (h : OnlyF F a w) (n : Nat) : OnlyF F a (w.drewN n) := ⟨h.os, h.tape, h.output, h.size, h.block⟩
theorem OnlyF.grown {F : Nat → Prop} {a w w' : World} {row : Option Nat} (h : OnlyF F a w) (g : w.grownBy w' row) (hr : ∀ k, row = some k → F k ∨ a.heap.size ≤ k) : OnlyF F a w' :=
 ⟨g.os.trans h.os, g.tape.trans h.tape, g.output.trans h.output, Nat.le_trans h.size g.size, fun k hk hn => (g.block k (Nat.lt_of_lt_of_le hk h.size) (fun e => by rcases hr k e.symm with q | q; exact hn q; omega)).trans (h.block k hk hn)⟩
theorem OnlyF.cell {F : Nat → Prop} {w w' : World} (h : OnlyF F w w') {b : Nat} (hb : b < w.heap.size) (ho : ¬ F b) (j : Nat) : w'.cell? ⟨b, j, none⟩ = w.cell? ⟨b, j, none⟩ := World.cell?_of_block (a := ⟨b, j, none⟩) (h.block b hb ho)
theorem OnlyF.frozen {F : Nat → Prop} {w w' : World} (h : OnlyF F w w') {b : Nat} (hb : b < w.heap.size) (ho : ¬ F b) (j : Nat) : w'.frozen? ⟨b, j, none⟩ = w.frozen? ⟨b, j, none⟩ := World.frozen?_of_block (a := ⟨b, j, none⟩) (h.block b hb ho)
theorem OnlyF.same {F G : Nat → Prop} {w w' : World} (h : OnlyF F w w') (hG : ∀ k, G k → k < w.heap.size ∧ ¬ F k) : SameF G w w' := fun k hk => h.block k (hG k hk).1 (hG k hk).2
theorem SameF.of_below {G : Nat → Prop} {B : Nat} {w w' : World} (h : Below B w w') (hG : ∀ k, G k → k < B) : SameF G w w' := fun k hk => h.block k (hG k hk)
theorem SameF.sub {G G' : Nat → Prop} {w w' : World} (s : SameF G w w') (h : ∀ k, G' k → G k) : SameF G' w w' := fun k hk => s k (h k hk)
theorem SameF.iv {l h : Nat} {G : Nat → Prop} {w w' : World} (s : SameF G w w') (hG : ∀ k, l ≤ k → k < h → G k) : Same l h w w' := fun k h1 h2 => s k (hG k h1 h2)

/-- Few blocks suffice for terms. -/
theorem Terms.tight {o : Bool} {l h : Nat} {w : World} {v : Value} {ts : List T} (t : Terms o l h w v ts) : ∃ l' h', (∀ k, l' ≤ k → k < h' → l ≤ k ∧ k < h) ∧ (h' = 0 ∨ h' = l' + 1) ∧ h' ≤ w.heap.size ∧ Terms o l' h' w v ts := by
 obtain ⟨a, cap, rfl, h1, h2, h3, h4⟩ := t
 rcases h4 with h4 | ⟨b, off, e, hl, hlt, hf, hc⟩
 ·exact ⟨0, 0, fun k _ h => by omega, .inl rfl, Nat.zero_le _, a, cap, rfl, h1, h2, h3, .inl h4⟩
 ·by_cases hn : ts = []
  ·exact ⟨0, 0, fun k _ h => by omega, .inl rfl, Nat.zero_le _, a, cap, rfl, h1, h2, h3, .inl hn⟩
  ·obtain ⟨x, r, hx⟩ := List.exists_cons_of_ne_nil hn
   have hc0 := (hc 0 x (by rw [hx]; rfl)).1
   exact ⟨b, b + 1, fun k _ h => by omega, .inr rfl, World.block_lt_of_cell? _ _ hc0, a, cap, rfl, h1, h2, h3, .inr ⟨b, off, e, Nat.le_refl _, by omega, hf, hc⟩⟩

/-- Terms that rest on blocks of F. -/
def TermsF (o : Bool) (F : Nat → Prop) (w : World) (v : Value) (ts : List T) : Prop := ∃ l h, (∀ k, l ≤ k → k < h → F k) ∧ Terms o l h w v ts
theorem TermsF.agree {o : Bool} {F : Nat → Prop} {w w' : World} {v : Value} {ts : List T} (t : TermsF o F w v ts) (s : SameF F w w') : TermsF o F w' v ts := by
 obtain ⟨l, h, q, t⟩ := t; exact ⟨l, h, q, t.agree (s.iv q)⟩
theorem TermsF.mono {o : Bool} {F G : Nat → Prop} {w : World} {v : Value} {ts : List T} (t : TermsF o F w v ts) (hFG : ∀ k, F k → G k) : TermsF o G w v ts := by
 obtain ⟨l, h, q, t⟩ := t; exact ⟨l, h, fun k a b => hFG k (q k a b), t⟩
theorem Terms.toF {o : Bool} {l h : Nat} {F : Nat → Prop} {w : World} {v : Value} {ts : List T} (t : Terms o l h w v ts) (hF : ∀ k, l ≤ k → k < h → F k) : TermsF o F w v ts := ⟨l, h, hF, t⟩
theorem TermsF.shape {o : Bool} {F : Nat → Prop} {w : World} {v : Value} {ts : List T} (t : TermsF o F w v ts) : ∃ a cap, v = .slice a ts.length cap ∧ ts.length ≤ cap ∧ cap ≤ 9223372036854775807 := by
 obtain ⟨l, h, q, t⟩ := t; exact t.shape
theorem TermsF.fits {o : Bool} {F : Nat → Prop} {w : World} {v : Value} {ts : List T} (t : TermsF o F w v ts) : ∀ t ∈ ts, Fits t.1 ∧ Fits t.2 := by
 obtain ⟨l, h, q, t⟩ := t; exact t.fits
theorem TermsF.iv {o : Bool} {F : Nat → Prop} {l h : Nat} {w : World} {v : Value} {ts : List T} (t : TermsF o F w v ts) (hF : ∀ k, F k → l ≤ k ∧ k < h) : Terms o l h w v ts := by
 obtain ⟨l', h', q, t⟩ := t
 obtain ⟨a, cap, rfl, h1, h2, h3, h4⟩ := t
 refine ⟨a, cap, rfl, h1, h2, h3, ?_⟩
 rcases h4 with h4 | ⟨b, off, e, hl, hlt, hf, hc⟩
 ·exact .inl h4
 ·have := hF b (q b hl hlt)
  exact .inr ⟨b, off, e, this.1, this.2, hf, hc⟩
theorem TermsF.read {o : Bool} {F : Nat → Prop} {w : World} {v : Value} {ts : List T} (t : TermsF o F w v ts) : Terms false 0 w.heap.size w v ts := by
 obtain ⟨l, h, q, t⟩ := t
 obtain ⟨l', h', q', -, hs, t⟩ := t.tight
 exact t.unown.mono (Nat.zero_le _) hs
theorem TermsF.nil (o : Bool) (F : Nat → Prop) (w : World) : TermsF o F w (.slice none 0 0) [] := ⟨0, 0, fun k _ h => by omega, Terms.nil _ _ _ _⟩
theorem TermsF.unown {o : Bool} {F : Nat → Prop} {w : World} {v : Value} {ts : List T} (t : TermsF o F w v ts) : TermsF false F w v ts := by
 obtain ⟨l, h, q, t⟩ := t; exact ⟨l, h, q, t.unown⟩

/-- What wd cells read as, and the blocks behind them. -/
structure FShape (α : Type) where
 wd : Nat
 rep : Bool → (Nat → Prop) → World → List Value → α → Prop
 len : ∀ {o F w cs x}, rep o F w cs x → cs.length = wd
 one : ∀ {o F w cs x}, rep o F w cs x → ∀ u ∈ cs, u.oneCell' = true
 agree : ∀ {o F w w' cs x}, rep o F w cs x → SameF F w w' → rep o F w' cs x
 mono : ∀ {o F G w cs x}, rep o F w cs x → (∀ k, F k → G k) → rep o G w cs x
 sh : Shape α
 wdsh : sh.wd = wd
 read : ∀ {o F w cs x}, rep o F w cs x → sh.rep false 0 w.heap.size w cs x

theorem one_of_terms {o : Bool} {l h : Nat} {w : World} {v : Value} {ts : List T} (t : Terms o l h w v ts) : v.oneCell' = true := by
 obtain ⟨a, cap, rfl, _⟩ := t; rfl

def FShape.lin : FShape (List T) where
 wd := 1
 rep o F w cs x := ∃ v, cs = [v] ∧ TermsF o F w v x
 len h := by obtain ⟨v, rfl, _⟩ := h; rfl
 one h u hu := by obtain ⟨v, rfl, l, h, q, t⟩ := h; simp at hu; subst hu; exact one_of_terms t
 agree h s := by obtain ⟨v, e, t⟩ := h; exact ⟨v, e, t.agree s⟩
 mono h a := by obtain ⟨v, e, t⟩ := h; exact ⟨v, e, t.mono a⟩
 sh := Shape.lin
 wdsh := rfl
 read h := by obtain ⟨v, e, t⟩ := h; exact ⟨v, e, t.read⟩

def FShape.hint : FShape HintC where
 wd := 4
 rep o F w cs x := ∃ va vb l1 h1 l2 h2, cs = [.int .i64 x.kind, va, vb, .int .i64 x.k] ∧ Fits x.kind ∧ Fits x.k ∧ (∀ k, l1 ≤ k → k < h1 → F k) ∧ (∀ k, l2 ≤ k → k < h2 → F k) ∧ (o = true → h1 ≤ l2 ∨ h2 ≤ l1) ∧ Terms o l1 h1 w va x.a ∧ Terms o l2 h2 w vb x.b
 len h := by obtain ⟨va, vb, l1, h1, l2, h2, rfl, _⟩ := h; rfl
 one h u hu := by
  obtain ⟨va, vb, l1, h1, l2, h2, rfl, f0, f3, p1, p2, d, ta, tb⟩ := h
  simp only [List.mem_cons, List.not_mem_nil, or_false] at hu
  rcases hu with rfl | rfl | rfl | rfl
  ·rfl
  ·exact one_of_terms ta
  ·exact one_of_terms tb
  ·rfl
 agree h s := by
  obtain ⟨va, vb, l1, h1, l2, h2, e, f0, f3, p1, p2, d, ta, tb⟩ := h
  exact ⟨va, vb, l1, h1, l2, h2, e, f0, f3, p1, p2, d, ta.agree (s.iv p1), tb.agree (s.iv p2)⟩
 mono h a := by
  obtain ⟨va, vb, l1, h1, l2, h2, e, f0, f3, p1, p2, d, ta, tb⟩ := h
  exact ⟨va, vb, l1, h1, l2, h2, e, f0, f3, fun k i j => a k (p1 k i j), fun k i j => a k (p2 k i j), d, ta, tb⟩
 sh := hintSh
 wdsh := rfl
 read h := by
  obtain ⟨va, vb, l1, h1, l2, h2, e, f0, f3, p1, p2, d, ta, tb⟩ := h
  exact ⟨va, vb, 0, _, 0, _, e, f0, f3, Nat.le_refl _, Nat.le_refl _, Nat.le_refl _, Nat.le_refl _, fun h => (by cases h), (ta.toF p1).read, (tb.toF p2).read⟩

def FShape.con : FShape ConC where
 wd := 3
 rep o F w cs x := ∃ va vb vc l1 h1 l2 h2 l3 h3, cs = [va, vb, vc] ∧ (∀ k, l1 ≤ k → k < h1 → F k) ∧ (∀ k, l2 ≤ k → k < h2 → F k) ∧ (∀ k, l3 ≤ k → k < h3 → F k) ∧ (o = true → (h1 ≤ l2 ∨ h2 ≤ l1) ∧ (h1 ≤ l3 ∨ h3 ≤ l1) ∧ (h2 ≤ l3 ∨ h3 ≤ l2)) ∧ Terms o l1 h1 w va x.a ∧ Terms o l2 h2 w vb x.b ∧ Terms o l3 h3 w vc x.c
 len h := by obtain ⟨va, vb, vc, l1, h1, l2, h2, l3, h3, rfl, _⟩ := h; rfl
 one h u hu := by
  obtain ⟨va, vb, vc, l1, h1, l2, h2, l3, h3, rfl, p1, p2, p3, d, ta, tb, tc⟩ := h
  simp only [List.mem_cons, List.not_mem_nil, or_false] at hu
  rcases hu with rfl | rfl | rfl
  ·exact one_of_terms ta
  ·exact one_of_terms tb
  ·exact one_of_terms tc
 agree h s := by
  obtain ⟨va, vb, vc, l1, h1, l2, h2, l3, h3, e, p1, p2, p3, d, ta, tb, tc⟩ := h
  exact ⟨va, vb, vc, l1, h1, l2, h2, l3, h3, e, p1, p2, p3, d, ta.agree (s.iv p1), tb.agree (s.iv p2), tc.agree (s.iv p3)⟩
 mono h a := by
  obtain ⟨va, vb, vc, l1, h1, l2, h2, l3, h3, e, p1, p2, p3, d, ta, tb, tc⟩ := h
  exact ⟨va, vb, vc, l1, h1, l2, h2, l3, h3, e, fun k i j => a k (p1 k i j), fun k i j => a k (p2 k i j), fun k i j => a k (p3 k i j), d, ta, tb, tc⟩
 sh := conSh
 wdsh := rfl
 read h := by
  obtain ⟨va, vb, vc, l1, h1, l2, h2, l3, h3, e, p1, p2, p3, d, ta, tb, tc⟩ := h
  exact ⟨va, vb, vc, 0, _, 0, _, 0, _, e, Nat.le_refl _, Nat.le_refl _, Nat.le_refl _, Nat.le_refl _, Nat.le_refl _, Nat.le_refl _, fun h => (by cases h), (ta.toF p1).read, (tb.toF p2).read, (tc.toF p3).read⟩

/-- A slice of one's own that grows: its row (a block of R, from base on) holds the elements, which rest on blocks of F; o: no two of them on the same. -/
def GrowF {α : Type} (E : FShape α) (e : TypeId) (o : Bool) (base : Nat) (R F : Nat → Prop) (w : World) (v : Value) (xs : List α) : Prop :=
 ∃ (css : List (List Value)) (G : Nat → Nat → Prop), w.ownsRow base e E.wd v xs.length css.flatten ∧ css.length = xs.length ∧ (∀ c ∈ css, c.length = E.wd) ∧ (∀ g, v.ownBlock = some g → R g) ∧
  (o = true → ∀ i j, i < j → j < xs.length → ∀ k, G i k → ¬ G j k) ∧ ∀ j x cs, xs[j]? = some x → css[j]? = some cs → (∀ k, G j k → F k) ∧ E.rep o (G j) w cs x

theorem owns_agree {w w' : World} {base : Nat} {e : TypeId} {size : Nat} {v : Value} {n : Nat} {xs : List Value} {R : Nat → Prop} (h : w.ownsRow base e size v n xs) (hR : ∀ g, v.ownBlock = some g → R g) (s : SameF R w w') : w'.ownsRow base e size v n xs := by
 obtain ⟨h1, h2⟩ := h
 refine ⟨h1, ?_⟩
 rcases h2 with h2 | ⟨g, cap, cur, rfl, q1, q2, q3⟩
 ·exact .inl h2
 ·exact .inr ⟨g, cap, cur, rfl, q1, by rw [s g (hR g rfl)]; exact q2, q3⟩

namespace GrowF
variable {α : Type} {E : FShape α} {e : TypeId} {o : Bool} {base : Nat} {R F : Nat → Prop} {w : World} {v : Value} {xs : List α}
theorem nil : GrowF E e o base R F w (.slice none 0 0) [] :=
 ⟨[], fun _ _ => False, World.ownsRow_nil _ _ _ _, rfl, by simp, fun g h => by simp [Value.ownBlock] at h, fun _ i j _ h => by simp at h, fun j x cs h => by simp at h⟩
theorem agree {w' : World} (g : GrowF E e o base R F w v xs) (s : SameF (fun k => R k ∨ F k) w w') : GrowF E e o base R F w' v xs := by
 obtain ⟨css, G, hr, hl, hd, hR, ho, hx⟩ := g
 exact ⟨css, G, owns_agree hr hR (s.sub fun k h => .inl h), hl, hd, hR, ho, fun j x cs a b => ⟨(hx j x cs a b).1, E.agree (hx j x cs a b).2 (s.sub fun k h => .inr ((hx j x cs a b).1 k h))⟩⟩
theorem mono {R' F' : Nat → Prop} (g : GrowF E e o base R F w v xs) (h1 : ∀ k, R k → R' k) (h2 : ∀ k, F k → F' k) : GrowF E e o base R' F' w v xs := by
 obtain ⟨css, G, hr, hl, hd, hR, ho, hx⟩ := g
 exact ⟨css, G, hr, hl, hd, fun k h => h1 k (hR k h), ho, fun j x cs a b => ⟨fun k h => h2 k ((hx j x cs a b).1 k h), (hx j x cs a b).2⟩⟩
theorem shape (g : GrowF E e o base R F w v xs) : ∃ a cap, v = .slice a xs.length cap ∧ xs.length ≤ cap ∧ cap ≤ 9223372036854775807 := by
 obtain ⟨css, G, hr, hl, hd, hR, ho, hx⟩ := g
 rcases hr.2 with ⟨rfl, h0⟩ | ⟨g, cap, cur, rfl, q1, q2, q3, q4, q5⟩
 ·rw [h0]; exact ⟨none, 0, rfl, Nat.le_refl _, by omega⟩
 ·exact ⟨_, cap, rfl, q3, by unfold maxLen at q4; omega⟩
/-- It grows by one element. -/
theorem appended {w1 w' : World} {v' : Value} {cs : List Value} {x : α} {G' F' : Nat → Prop} (g : GrowF E e o base R F w v xs) (hRF : ∀ k, R k → ¬ F k) (hb : ∀ k, F k → k < w.heap.size)
  (hs : SameF (fun k => R k ∨ F k ∨ G' k) w w1) (hz : w.heap.size ≤ w1.heap.size) (hrep : E.rep o G' w cs x) (hG : ∀ k, G' k → F' k ∧ k < w.heap.size ∧ ¬ R k) (hGF : o = true → ∀ k, F k → ¬ G' k)
  (hown : ∀ css : List (List Value), w.ownsRow base e E.wd v xs.length css.flatten → w'.ownsRow base e E.wd v' (xs.length + 1) (css.flatten ++ cs)) (hgr : w1.grownBy w' v.ownBlock) (hat : v'.ownBlock = v.ownBlock ∨ v'.ownBlock = some w1.heap.size) (hlt : w1.heap.size < w'.heap.size ∨ v'.ownBlock = v.ownBlock) :
  GrowF E e o base (fun k => R k ∨ (w.heap.size ≤ k ∧ k < w'.heap.size)) (fun k => F k ∨ F' k) w' v' (xs ++ [x]) := by
 obtain ⟨css, G, hr, hl, hd, hR, ho, hx⟩ := g
 have hcl := E.len hrep
 have same : ∀ k, (F k ∨ G' k) → w'.heap[k]? = w.heap[k]? := fun k hk => by
  have hk1 : k < w.heap.size := by rcases hk with h | h; exact hb k h; exact (hG k h).2.1
  have hnR : ¬ R k := by rcases hk with h | h; exact fun q => hRF k q h; exact (hG k h).2.2
  rw [hgr.block k (Nat.lt_of_lt_of_le hk1 hz) (fun e => hnR (hR k e.symm))]
  exact hs k (.inr hk)
 refine ⟨css ++ [cs], fun j => if j = xs.length then G' else G j, by rw [List.length_append, List.flatten_append]; simpa using hown css hr, by simp [hl], ?_, ?_, ?_, ?_⟩
 ·intro c hc
  rcases List.mem_append.1 hc with hc | hc
  ·exact hd c hc
  ·simp at hc; subst hc; exact hcl
 ·intro g hg
  rcases hat with h | h
  ·exact .inl (hR g (h ▸ hg))
  ·rw [h] at hg; simp at hg; subst hg
   rcases hlt with q | q
   ·exact .inr ⟨hz, q⟩
   ·exact .inl (hR _ (q ▸ h))
 ·intro hoo i j hij hj k
  simp only [List.length_append, List.length_cons, List.length_nil] at hj
  have hi : i ≠ xs.length := by omega
  by_cases hjn : j = xs.length
  ·simp only [hi, if_false, hjn, if_true]
   have hxi : xs[i]? = some xs[i] := List.getElem?_eq_getElem (by omega)
   have hci : css[i]? = some css[i] := List.getElem?_eq_getElem (by omega)
   exact fun hk => hGF hoo k ((hx i _ _ hxi hci).1 k hk)
  ·simp only [hi, hjn, if_false]
   exact ho hoo i j hij (by omega) k
 ·intro j y c hj hc
  by_cases hjn : j = xs.length
  ·subst hjn
   simp at hj; subst hj
   rw [← hl] at hc
   simp at hc; subst hc
   simp only [if_true]
   exact ⟨fun k h => .inr (hG k h).1, E.agree hrep fun k h => same k (.inr h)⟩
  ·have hjl : j < xs.length := by
    have := (List.getElem?_eq_some_iff.1 hj).1
    simp at this; omega
   rw [List.getElem?_append_left hjl] at hj
   rw [List.getElem?_append_left (by omega)] at hc
   simp only [hjn, if_false]
   exact ⟨fun k h => .inl ((hx j y c hj hc).1 k h), E.agree (hx j y c hj hc).2 fun k h => same k (.inl ((hx j y c hj hc).1 k h))⟩
/-- What it reads as. -/
theorem read (g : GrowF E e o base R F w v xs) : (Shape.row E.sh).rep false 0 w.heap.size w [v] xs := by
 obtain ⟨css, G, hr, hl, hd, hR, ho, hx⟩ := g
 rcases id hr.2 with ⟨rfl, h0⟩ | ⟨g, cap, cur, rfl, hb, hg, hc, hcm, hs, ht⟩
 ·have : xs = [] := List.eq_nil_of_length_eq_zero h0
  subst this
  exact Shape.row_nil _ _ _ _
 ·refine ⟨some ⟨g, 0, none⟩, cap, rfl, hc, by unfold maxLen at hcm; omega, .inr ⟨g, 0, rfl, Nat.zero_le _, (hr.lt g rfl).2, fun h => (by cases h), fun j => css[j]?.getD [], fun _ => 0, fun _ => w.heap.size, fun h => (by cases h), fun j x hj => ?_⟩⟩
  have hjl : j < xs.length := (List.getElem?_eq_some_iff.1 hj).1
  have hcs : css[j]? = some css[j] := List.getElem?_eq_getElem (by omega)
  obtain ⟨q1, q2⟩ := hx j x _ hj hcs
  have e1 : css[j]?.getD [] = css[j] := by rw [hcs]; rfl
  simp only [e1]
  refine ⟨Nat.le_refl _, Nat.le_refl _, fun f c hfc => ?_, E.read q2⟩
  have hf : f < E.wd := by rw [← E.len q2]; exact (List.getElem?_eq_some_iff.1 hfc).1
  rw [E.wdsh, show 0 + j * E.wd + f = j * E.wd + f from by omega, hr.cellAt _ (Shape.idx_lt hjl hf), Shape.flat_at hd hcs hf]
  exact hfc
end GrowF
/-- New blocks. -/
def Nw (w w' : World) (k : Nat) : Prop := w.heap.size ≤ k ∧ k < w'.heap.size
/-- What an append of one element leaves of a slice that grows. -/
theorem GrowF.lies {α : Type} {E : FShape α} {e : TypeId} {oo : Bool} {base : Nat} {R F : Nat → Prop} {w w' : World} {v : Value} {xs : List α} {cs : List Value} {y : α} {G' : Nat → Prop} {css : List (List Value)} {G : Nat → Nat → Prop}
  (hr : w.ownsRow base e E.wd v xs.length css.flatten) (hl : css.length = xs.length) (hd : ∀ c ∈ css, c.length = E.wd) (hR : ∀ g, v.ownBlock = some g → R g)
  (ho : oo = true → ∀ i j, i < j → j < xs.length → ∀ k, G i k → ¬ G j k) (hxx : ∀ j x cs, xs[j]? = some x → css[j]? = some cs → (∀ k, G j k → F k) ∧ E.rep oo (G j) w cs x)
  (hrep : E.rep oo G' w cs y) (hRF : ∀ k, R k → ¬ F k) (hb : ∀ k, R k ∨ F k → k < w.heap.size) (hG : ∀ k, G' k → k < w.heap.size ∧ ¬ R k) (hGF : oo = true → ∀ k, F k → ¬ G' k) {g' cap' : Nat}
  (hown' : w'.ownsRow base e E.wd (.slice (some ⟨g', 0, none⟩) (xs.length + 1) cap') (xs.length + 1) (css.flatten ++ cs)) (hgrow : w.grownBy w' v.ownBlock) (hat : v.ownBlock = some g' ∨ g' = w.heap.size) (hlt : g' < w'.heap.size) :
  (GrowF E e oo base (fun k => R k ∨ Nw w w' k) (fun k => F k ∨ G' k) w' (.slice (some ⟨g', 0, none⟩) (xs.length + 1) cap') (xs ++ [y]) ∧ OnlyF R w w') ∧ xs.length + 1 ≤ cap' := by
 have hcap : xs.length + 1 ≤ cap' := by
  rcases hown'.2 with ⟨q, _⟩ | ⟨_, _, _, q, _, _, q3, _⟩
  ·simp at q
  ·simp at q; omega
 refine ⟨⟨GrowF.appended (w1 := w) (F' := G') ⟨css, G, hr, hl, hd, hR, ho, hxx⟩ hRF (fun k h => hb k (.inr h)) (fun k _ => rfl) (Nat.le_refl _) hrep (fun k h => ⟨h, hG k h⟩) hGF ?_ hgrow ?_ ?_, (OnlyF.refl R w).grown hgrow (fun k hk => .inl (hR k hk))⟩, hcap⟩
 ·intro css2 hr2
  have e2 : css2.flatten = css.flatten := by
   rcases hr.2 with ⟨q, q0⟩ | ⟨b, c, cur, q, _, qh, _, _, _, qt⟩
   ·have l1 := hr.1; have l2 := hr2.1
    rw [q0, Nat.zero_mul] at l1 l2
    rw [List.eq_nil_of_length_eq_zero l1, List.eq_nil_of_length_eq_zero l2]
   ·rcases hr2.2 with ⟨q', _⟩ | ⟨b', c', cur', q', _, qh', _, _, _, qt'⟩
    ·rw [q] at q'; simp at q'
    ·rw [q] at q'; simp at q'
     obtain ⟨rfl, rfl⟩ := q'
     rw [qh] at qh'; simp at qh'; subst qh'
     rw [← qt, ← qt']
  rw [e2]; exact hown'
 ·rcases hat with q | q
  ·exact .inl (by rw [q]; rfl)
  ·exact .inr (by rw [q]; rfl)
 ·rcases hat with q | q
  ·exact .inr (by rw [q]; rfl)
  ·exact .inl (by omega)

section
variable {P : Program} (w : World) {α : Type} {E : FShape α} {oo : Bool} {base : Nat} {R F : Nat → Prop}
/-- 'append' of one element, which lies in the block B, onto a slice that grows; at a plain region. -/
theorem wpList_append_growF {ops : Array Oper} {rest : List Oper} {op : Oper} {a : Act} {Q : Exit → Act → World → Prop} (hgd : op.guard = none) (s x : Operand) (t : TypeId)
  (ho : op.op = .call { callee := .builtin .append, args := #[s, x], argTypes := #[t, t] })
  (e : TypeId) (i : TypeInfo) (z : Value) (bytes : Nat) (ht : P.underlying t = some (.slice e)) (hi : P.info? e = some i) (hz : i.zero = some z)
  (hsize : i.size = E.wd) (hby : i.bytes = bytes) (hzs : z.cells.size = E.wd) (hsz : 0 < E.wd)
  (v : Value) (xs : List α) (hs : a.eval s = v) (g : GrowF E e oo base R F w v xs) (cs : List Value) (y : α) (G' : Nat → Prop) (hrep : E.rep oo G' w cs y) (B : Nat) (fr : Nat × Nat) (hx : a.eval x = .slice (some ⟨B, 0, none⟩) 1 1) (hB : w.heap[B]? = some (.cells cs.toArray e fr))
  (hRF : ∀ k, R k → ¬ F k) (hb : ∀ k, R k ∨ F k → k < w.heap.size) (hG : ∀ k, G' k → k < w.heap.size ∧ ¬ R k) (hGF : oo = true → ∀ k, F k → ¬ G' k)
  (h63 : xs.length + 1 ≤ 1000000000) (hbytes : (xs.length + 1) * bytes ≤ 140737488355328) (hbase : base ≤ w.heap.size)
  (h : ∀ g' cap' w', (GrowF E e oo base (fun k => R k ∨ Nw w w' k) (fun k => F k ∨ G' k) w' (.slice (some ⟨g', 0, none⟩) (xs.length + 1) cap') (xs ++ [y]) ∧ OnlyF R w w') ∧ xs.length + 1 ≤ cap' → wpList P ops Q rest (a.put op.dst (.slice (some ⟨g', 0, none⟩) (xs.length + 1) cap')) w') :
  wpList P ops Q (op :: rest) a w := by
 obtain ⟨css, G, hr, hl, hd, hR, hoo, hxx⟩ := g
 exact wpList_append_lies w hgd s x t ho base e i z E.wd bytes ht hi hz hsize hby hzs hsz v xs.length css.flatten hs hr ⟨B, 0, none⟩ 1 1 cs hx (by rw [E.len hrep]; omega) (fun j u hj => World.news_of_block hB j u (by simpa using hj)) (E.one hrep) (by omega) (by unfold maxLen; omega) hbytes hbase _ rfl
  fun g' cap' w' hown hgrow hat hlt => h g' cap' w' (GrowF.lies hr hl hd hR hoo hxx hrep hRF hb hG hGF hown hgrow hat hlt)
/-- The same at a step of a region that draws. -/
theorem step_append_growF {ops : Array Oper} {op : Oper} {a : Act} {K : Act → World → Prop} {Q : Exit → Act → World → Prop} {Z : Prop} (hgd : op.guard = none) (s x : Operand) (t : TypeId)
  (ho : op.op = .call { callee := .builtin .append, args := #[s, x], argTypes := #[t, t] })
  (e : TypeId) (i : TypeInfo) (z : Value) (bytes : Nat) (ht : P.underlying t = some (.slice e)) (hi : P.info? e = some i) (hz : i.zero = some z)
  (hsize : i.size = E.wd) (hby : i.bytes = bytes) (hzs : z.cells.size = E.wd) (hsz : 0 < E.wd)
  (v : Value) (xs : List α) (hs : a.eval s = v) (g : GrowF E e oo base R F w v xs) (cs : List Value) (y : α) (G' : Nat → Prop) (hrep : E.rep oo G' w cs y) (B : Nat) (fr : Nat × Nat) (hx : a.eval x = .slice (some ⟨B, 0, none⟩) 1 1) (hB : w.heap[B]? = some (.cells cs.toArray e fr))
  (hRF : ∀ k, R k → ¬ F k) (hb : ∀ k, R k ∨ F k → k < w.heap.size) (hG : ∀ k, G' k → k < w.heap.size ∧ ¬ R k) (hGF : oo = true → ∀ k, F k → ¬ G' k)
  (h63 : xs.length + 1 ≤ 1000000000) (hbytes : (xs.length + 1) * bytes ≤ 140737488355328) (hbase : base ≤ w.heap.size)
  (h : ∀ g' cap' w', (GrowF E e oo base (fun k => R k ∨ Nw w w' k) (fun k => F k ∨ G' k) w' (.slice (some ⟨g', 0, none⟩) (xs.length + 1) cap') (xs ++ [y]) ∧ OnlyF R w w') ∧ xs.length + 1 ≤ cap' → K (a.put op.dst (.slice (some ⟨g', 0, none⟩) (xs.length + 1) cap')) w') :
  if Region.wanted op (yielded ops a.tmps) = true then Oper.wp P op a w K Q else Z := by
 obtain ⟨css, G, hr, hl, hd, hR, hoo, hxx⟩ := g
 exact step_append_lies w hgd s x t ho base e i z E.wd bytes ht hi hz hsize hby hzs hsz v xs.length css.flatten hs hr ⟨B, 0, none⟩ 1 1 cs hx (by rw [E.len hrep]; omega) (fun j u hj => World.news_of_block hB j u (by simpa using hj)) (E.one hrep) (by omega) (by unfold maxLen; omega) hbytes hbase _ rfl
  fun g' cap' w' hown hgrow hat hlt => h g' cap' w' (GrowF.lies hr hl hd hR hoo hxx hrep hRF hb hG hGF hown hgrow hat hlt)
end

theorem run_append_owned_none' {P : Program} (w : World) (base : Nat) (t ty e : TypeId) (i : TypeInfo) (size : Nat) (ht : P.underlying t = some (.slice e)) (hi : P.info? e = some i) (v : Value) (n c : Nat) (xs : List Value) (hown : w.ownsRow base e size v n xs) :
  (Builtin.append_ #[t, t] ty #[v, .slice none 0 c]).run P w = .ok v w := by
 rcases hown.2 with ⟨rfl, rfl⟩ | ⟨g, cap, cur, rfl, _, _, hnc, _⟩
 ·simp [Builtin.append_, run_underlying ht, sizeOf, typeInfo, hi, Builtin.lenOf, Builtin.firstCells]
 ·simp [Builtin.append_, run_underlying ht, sizeOf, typeInfo, hi, Builtin.lenOf, Builtin.firstCells, hnc, storeCells]
/-- 'append(own, xs...)', xs any slice whose cells are known, nil among them. -/
theorem wpList_append_spread {P : Program} (w : World) {ops : Array Oper} {rest : List Oper} {o : Oper} {a : Act} {Q : Exit → Act → World → Prop} (hgd : o.guard = none) (s x : Operand) (t : TypeId)
  (ho : o.op = .call { callee := .builtin .append, args := #[s, x], argTypes := #[t, t] })
  (base : Nat) (e : TypeId) (i : TypeInfo) (z : Value) (size bytes : Nat) (ht : P.underlying t = some (.slice e)) (hi : P.info? e = some i) (hz : i.zero = some z)
  (hsize : i.size = size) (hby : i.bytes = bytes) (hzs : z.cells.size = size) (hsz : 0 < size)
  (v : Value) (n : Nat) (xs : List Value) (hs : a.eval s = v) (hown : w.ownsRow base e size v n xs)
  (ao : Option Addr) (m c : Nat) (news : List Value) (hx : a.eval x = .slice ao m c) (hl : news.length = m * size) (hnone : ao = none → m = 0) (hnews : ∀ ad, ao = some ad → ∀ j u, news[j]? = some u → w.cell? (ad.add j) = some u) (h1 : ∀ u ∈ news, u.oneCell' = true)
  (h63 : n + m ≤ maxLen) (hbytes : (n + m) * bytes ≤ 140737488355328) (hbase : base ≤ w.heap.size)
  (h : ∀ v' w', w'.ownsRow base e size v' (n + m) (xs ++ news) ∧ w.grownBy w' v.ownBlock ∧ (v'.ownBlock = v.ownBlock ∨ v'.ownBlock = some w.heap.size) → wpList P ops Q rest (a.put o.dst v') w') :
  wpList P ops Q (o :: rest) a w := by
 cases ao with
 | some ad => exact wpList_append_own_at w hgd s x t ho base e i z size bytes ht hi hz hsize hby hzs hsz v n xs hs hown ad m c news hx hl (hnews ad rfl) h1 h63 hbytes hbase fun v' w' q1 q2 _ q4 => h v' w' ⟨q1, q2, q4⟩
 | none =>
  obtain rfl := hnone rfl
  have hn : news = [] := List.eq_nil_of_length_eq_zero (by simpa using hl)
  subst hn
  refine wpList_plain hgd fun K hK => ?_
  have hrun := run_append_owned_none' (P := P) w base t o.type e i size ht hi v n c xs hown
  unfold Oper.wp
  simp [execOp, ho, resolve, invoke, builtin, hs, hx, hrun, Result.andThen]
  exact hK _ _ (h v w ⟨by simpa using hown, ⟨rfl, rfl, rfl, Nat.le_refl _, fun _ _ _ => rfl⟩, .inl rfl⟩)
end Go.Proofs.YthipgpbapdambaaGreat.L

/- Marks and what is found of them, where what is marked rests on footprints. -/
namespace Go.Proofs.YthipgpbapdambaaGreat.L
open Go.RowKit Go.Proofs.YthipgpbapdambaaGreat.S
set_option linter.unusedVariables false
set_option linter.unusedSimpArgs false

/-- Only the cells from s on, n of them, of block b may have been written, and the blocks of G. -/
structure ChgF (b s n : Nat) (G : Nat → Prop) (w w' : World) : Prop where
 size : w.heap.size ≤ w'.heap.size
 block : ∀ k, k < w.heap.size → k ≠ b → ¬ G k → w'.heap[k]? = w.heap[k]?
 cell : ∀ i, (i < s ∨ s + n ≤ i) → w'.cell? ⟨b, i, none⟩ = w.cell? ⟨b, i, none⟩
 frozen : ∀ i, w'.frozen? ⟨b, i, none⟩ = w.frozen? ⟨b, i, none⟩
theorem ChgF.refl (b s n : Nat) (G : Nat → Prop) (w : World) : ChgF b s n G w w := ⟨Nat.le_refl _, fun _ _ _ _ => rfl, fun _ _ => rfl, fun _ => rfl⟩
theorem ChgF.setCell {b s n : Nat} {G : Nat → Prop} {w w' : World} (c : ChgF b s n G w w') {i : Nat} (h1 : s ≤ i) (h2 : i < s + n) (u : Value) : ChgF b s n G w (w'.setCell ⟨b, i, none⟩ u) where
 size := by simpa [World.setCell] using c.size
 block k hk hb ho := by rw [Below.heap_setCell _ _ _ _ (by first | exact hb | simpa using hb)]; exact c.block k hk hb ho
 cell j hj := by rw [World.cell?_setCell_other _ _ _ _ (by first | (simp; done) | (simp; omega))]; exact c.cell j hj
 frozen j := by rw [World.frozen?_setCell]; exact c.frozen j
theorem ChgF.only {b s n lo hi : Nat} {G : Nat → Prop} {w w' w'' : World} (c : ChgF b s n G w w') (ho : Only lo hi w' w'') (hG : ∀ k, lo ≤ k → k < hi → G k) (hb : b < lo ∨ hi ≤ b) (hs : b < w.heap.size) : ChgF b s n G w w'' where
 size := Nat.le_trans c.size ho.size
 block k hk hkb hkh := by rw [ho.block k (Nat.lt_of_lt_of_le hk c.size) (by by_cases h1 : lo ≤ k; by_cases h2 : k < hi; exact absurd (hG k h1 h2) hkh; omega; omega)]; exact c.block k hk hkb hkh
 cell j hj := by rw [ho.cell (Nat.lt_of_lt_of_le hs c.size) hb]; exact c.cell j hj
 frozen j := by rw [ho.frozen (Nat.lt_of_lt_of_le hs c.size) hb]; exact c.frozen j

/-- A slice that may be written: its row and its elements rest on blocks of F, no two on the same. -/
def RowF {α : Type} (E : FShape α) (F : Nat → Prop) (w : World) (v : Value) (xs : List α) : Prop :=
 ∃ a cap, v = .slice a xs.length cap ∧ xs.length ≤ cap ∧ cap ≤ 9223372036854775807 ∧
  (xs = [] ∨ ∃ b off, a = some ⟨b, off, none⟩ ∧ F b ∧ b < w.heap.size ∧ (∀ j, w.frozen? ⟨b, j, none⟩ = false) ∧
   ∃ (C : Nat → List Value) (G : Nat → Nat → Prop), (∀ j, j < xs.length → ¬ G j b) ∧ (∀ i j, i < j → j < xs.length → ∀ k, G i k → ¬ G j k) ∧
    ∀ j x, xs[j]? = some x → (∀ k, G j k → F k ∧ k < w.heap.size) ∧ (∀ f c, (C j)[f]? = some c → w.cell? ⟨b, off + j * E.wd + f, none⟩ = some c) ∧ E.rep true (G j) w (C j) x)
namespace RowF
variable {α : Type} {E : FShape α} {F : Nat → Prop} {w : World} {v : Value} {xs : List α}
theorem shape (t : RowF E F w v xs) : ∃ a cap, v = .slice a xs.length cap ∧ xs.length ≤ cap ∧ cap ≤ 9223372036854775807 := by
 obtain ⟨a, cap, e, h1, h2, _⟩ := t
 exact ⟨a, cap, e, h1, h2⟩
theorem agree {w' : World} (t : RowF E F w v xs) (s : SameF F w w') (hz : w.heap.size ≤ w'.heap.size) : RowF E F w' v xs := by
 obtain ⟨a, cap, e, h1, h2, h4⟩ := t
 refine ⟨a, cap, e, h1, h2, ?_⟩
 rcases h4 with h4 | ⟨b, off, ea, hF, hb, hf, C, G, d1, d2, hc⟩
 ·exact .inl h4
 ·refine .inr ⟨b, off, ea, hF, Nat.lt_of_lt_of_le hb hz, fun j => by rw [World.frozen?_of_block (a := ⟨b, j, none⟩) (s b hF)]; exact hf j, C, G, d1, d2, fun j x hj => ?_⟩
  obtain ⟨a1, a2, a3⟩ := hc j x hj
  exact ⟨fun k hk => ⟨(a1 k hk).1, Nat.lt_of_lt_of_le (a1 k hk).2 hz⟩, fun f c hfc => by rw [World.cell?_of_block (a := ⟨b, _, none⟩) (s b hF)]; exact a2 f c hfc, E.agree a3 (s.sub fun k hk => (a1 k hk).1)⟩
theorem mono {F' : Nat → Prop} (t : RowF E F w v xs) (h : ∀ k, F k → F' k) : RowF E F' w v xs := by
 obtain ⟨a, cap, e, h1, h2, h4⟩ := t
 refine ⟨a, cap, e, h1, h2, ?_⟩
 rcases h4 with h4 | ⟨b, off, ea, hF, hb, hf, C, G, d1, d2, hc⟩
 ·exact .inl h4
 ·exact .inr ⟨b, off, ea, h _ hF, hb, hf, C, G, d1, d2, fun j x hj => ⟨fun k hk => ⟨h _ ((hc j x hj).1 k hk).1, ((hc j x hj).1 k hk).2⟩, (hc j x hj).2⟩⟩
theorem of_grow {e : TypeId} {base : Nat} {R G : Nat → Prop} (g : GrowF E e true base R G w v xs) (hRG : ∀ k, R k → ¬ G k) (hb : ∀ k, G k → k < w.heap.size) : RowF E (fun k => R k ∨ G k) w v xs := by
 obtain ⟨css, Gs, hr, hl, hd, hR, ho, hx⟩ := g
 rcases id hr.2 with ⟨rfl, h0⟩ | ⟨g, cap, cur, rfl, hbb, hg, hc, hcm, hs, ht⟩
 ·have : xs = [] := List.eq_nil_of_length_eq_zero h0
  subst this
  exact ⟨none, 0, rfl, Nat.le_refl _, by omega, .inl rfl⟩
 ·refine ⟨some ⟨g, 0, none⟩, cap, rfl, hc, by unfold maxLen at hcm; omega, .inr ⟨g, 0, rfl, .inl (hR g rfl), (hr.lt g rfl).2, fun j => hr.frozenAt j, fun j => css[j]?.getD [], Gs, fun j hj hk => ?_, ho rfl, fun j x hj => ?_⟩⟩
  ·have hxj : xs[j]? = some xs[j] := List.getElem?_eq_getElem hj
   have hcj : css[j]? = some css[j] := List.getElem?_eq_getElem (by omega)
   exact hRG g (hR g rfl) ((hx j _ _ hxj hcj).1 g hk)
  ·have hjl : j < xs.length := (List.getElem?_eq_some_iff.1 hj).1
   have hcs : css[j]? = some css[j] := List.getElem?_eq_getElem (by omega)
   obtain ⟨q1, q2⟩ := hx j x _ hj hcs
   have e1 : css[j]?.getD [] = css[j] := by rw [hcs]; rfl
   simp only [e1]
   refine ⟨fun k hk => ⟨.inr (q1 k hk), hb k (q1 k hk)⟩, fun f c hfc => ?_, q2⟩
   have hf : f < E.wd := by rw [← E.len q2]; exact (List.getElem?_eq_some_iff.1 hfc).1
   rw [show 0 + j * E.wd + f = j * E.wd + f from by omega, hr.cellAt _ (Shape.idx_lt hjl hf), Shape.flat_at hd hcs hf]
   exact hfc
theorem focus {a : Option Addr} {n cap : Nat} (t : RowF E F w (.slice a n cap) xs) {j : Nat} (hj : j < xs.length) :
  ∃ b off cs G, a = some ⟨b, off, none⟩ ∧ F b ∧ b < w.heap.size ∧ (∀ k, G k → F k ∧ k < w.heap.size ∧ k ≠ b) ∧ (∀ f c, cs[f]? = some c → w.cell? ⟨b, off + j * E.wd + f, none⟩ = some c) ∧ E.rep true G w cs xs[j] ∧ (∀ i, w.frozen? ⟨b, i, none⟩ = false) ∧
    ∀ w' cs' x', ChgF b (off + j * E.wd) E.wd G w w' → (∀ f c, cs'[f]? = some c → w'.cell? ⟨b, off + j * E.wd + f, none⟩ = some c) → E.rep true G w' cs' x' → RowF E F w' (.slice a n cap) (xs.set j x') := by
 obtain ⟨a0, cap0, e0, h1, h2, h4⟩ := t
 simp only [Value.slice.injEq] at e0
 obtain ⟨rfl, rfl, rfl⟩ := e0
 rcases h4 with h4 | ⟨b, off, ea, hF, hb, hf, C, G, d1, d2, hc⟩
 ·subst h4; simp at hj
 obtain ⟨a1, a2, a3⟩ := hc j _ (List.getElem?_eq_getElem hj)
 refine ⟨b, off, C j, G j, ea, hF, hb, fun k hk => ⟨(a1 k hk).1, (a1 k hk).2, fun e => d1 j hj (e ▸ hk)⟩, a2, a3, hf, fun w' cs' x' hch hcs hrep => ?_⟩
 refine ⟨a, cap, by simp, by simpa using h1, h2, .inr ⟨b, off, ea, hF, Nat.lt_of_lt_of_le hb hch.size, fun i => by rw [hch.frozen]; exact hf i, fun i => if i = j then cs' else C i, G, fun i hi => d1 i (by simpa using hi), fun i k hik hk => d2 i k hik (by simpa using hk), fun i x hi => ?_⟩⟩
 by_cases e : i = j
 ·subst e
  rw [List.getElem?_set_self hj] at hi
  simp only [Option.some.injEq] at hi
  subst hi
  simp only [if_true]
  exact ⟨fun k hk => ⟨(a1 k hk).1, Nat.lt_of_lt_of_le (a1 k hk).2 hch.size⟩, hcs, hrep⟩
 ·rw [List.getElem?_set_ne (by omega)] at hi
  have hil : i < xs.length := (List.getElem?_eq_some_iff.1 hi).1
  simp only [e, if_false]
  obtain ⟨b1, b3, b4⟩ := hc i x hi
  refine ⟨fun k hk => ⟨(b1 k hk).1, Nat.lt_of_lt_of_le (b1 k hk).2 hch.size⟩, fun f c hfc => ?_, E.agree b4 (fun k hk => hch.block k (b1 k hk).2 (fun e => d1 i hil (e ▸ hk)) ?_)⟩
  ·have hfl : f < E.wd := by rw [← E.len b4]; exact (List.getElem?_eq_some_iff.1 hfc).1
   rw [hch.cell _ (Shape.idx_ne e hfl)]
   exact b3 f c hfc
  ·rcases Nat.lt_or_gt_of_ne e with q | q
   ·exact d2 i j q hj k hk
   ·exact fun h => d2 j i q hil k h hk
end RowF

theorem iv_apart {l1 h1 l2 h2 l1' h1' l2' h2' : Nat} (d : h1 ≤ l2 ∨ h2 ≤ l1) (q1 : ∀ k, l1' ≤ k → k < h1' → l1 ≤ k ∧ k < h1) (q2 : ∀ k, l2' ≤ k → k < h2' → l2 ≤ k ∧ k < h2) (e1 : h1' = 0 ∨ h1' = l1' + 1) (e2 : h2' = 0 ∨ h2' = l2' + 1) : h1' ≤ l2' ∨ h2' ≤ l1' := by
 rcases e1 with rfl | rfl
 ·exact .inl (Nat.zero_le _)
 ·rcases e2 with rfl | rfl
  ·exact .inr (Nat.zero_le _)
  ·have := q1 l1' (Nat.le_refl _) (by omega)
   have := q2 l2' (Nat.le_refl _) (by omega)
   omega
theorem iv_not {l h b : Nat} {G : Nat → Prop} (q : ∀ k, l ≤ k → k < h → G k) (hn : ¬ G b) : b < l ∨ h ≤ b := by
 by_cases h1 : l ≤ b
 ·by_cases h2 : b < h
  ·exact absurd (q b h1 h2) hn
  ·omega
 ·omega

set_option maxRecDepth 100000 in
set_option maxHeartbeats 1600000 in
theorem markLinF (F : Nat → Prop) (v) (xs : List (List T)) (m : Nat) (w : World) (t : RowF FShape.lin F w v xs) (hm : m + tot fL xs ≤ 8388608) :
  Calls Tryz.prog 50 #[v, .int .i64 m] w fun e w' => e = .returned (.int .i64 ((m + tot fL xs : Nat) : Int)) ∧ OnlyF F w w' ∧ RowF FShape.lin F w' v (mkA gL fL m xs) := by
 obtain ⟨a, ka, rfl, la, ba⟩ := t.shape
 go_enter Tryz.func50, Tryz.ntmps50
 go_wp2_with fail
 go_loopw [1, 5] (fun n i wr => ∃ (k : Nat) (q : Int), k ≤ xs.length ∧ i = .int .i64 k ∧ n = .int .i64 q ∧ q = ((m + tot fL (xs.take k) : Nat) : Int) ∧ OnlyF F w wr ∧ RowF FShape.lin F wr (.slice a xs.length ka) (mix gL fL m xs k)) (fun _ i _ => xs.length - (intOf i).toNat)
 case atStart => exact ⟨0, m, Nat.zero_le _, rfl, rfl, by simp [tot], OnlyF.refl _ _, t⟩
 case round =>
  obtain ⟨k, q, hk, rfl, rfl, hq, on, ht⟩ := hrel
  have HQ := Lib.hid hq
  have zs := on.size
  have hle := tot_le fL xs (k + 1)
  clear hq t
  by_cases hlt : k < xs.length
  ·have hst := tot_step (f := fL) hlt
   have hlen : (mix gL fL m xs k).length = xs.length := mix_length hk
   obtain ⟨b, off, cs, G, rfl, pb, bl, pG, hc, ⟨u, rfl, L0, H0, q0', tu⟩, d2, d3⟩ := RowF.focus (E := FShape.lin) ht (j := k) (by omega)
   rw [mix_at hlt] at tu
   obtain ⟨L, H, qs, qe, qz, tu⟩ := tu.tight
   have qG : ∀ k, L ≤ k → k < H → G k := fun k a b => by have := qs k a b; exact q0' k this.1 this.2
   have d1 : b < L ∨ H ≤ b := iv_not qG (fun h => (pG b h).2.2 rfl)
   have c0 : wr.cell? ⟨b, off + k, none⟩ = some u := by have := hc 0 u rfl; rwa [show FShape.lin.wd = 1 from rfl, Nat.mul_one, Nat.add_zero] at this
   obtain ⟨x, kx, rfl, lx, bx⟩ := tu.shape
   have q0 : 0 ≤ q := by have := HQ.out; omega
   have e2 : fL xs[k] = 2 * xs[k].length := rfl
   have q1 : q + 2 * (xs[k].length : Int) ≤ 8388608 := by have := HQ.out; omega
   have SET : Hid ((mix gL fL m xs k).set k (marks q.toNat xs[k].length) = mix gL fL m xs (k + 1)) := Lib.hid (by rw [← mix_set hlt]; have := HQ.out; rw [show q.toNat = m + tot fL (xs.take k) from by omega]; rfl)
   have Q2 : Hid (q + 2 * (xs[k].length : Int) = ((m + tot fL (xs.take (k + 1)) : Nat) : Int)) := Lib.hid (by have := HQ.out; omega)
   clear hst hle hlen e2 ht
   go_wp2_with fail
   refine (markTermS_int L H _ xs[k] q _ tu (by omega) (by omega) q0 (by omega)).mono ?_; rintro e w2 ⟨rfl, on2, tr⟩
   have up := d3 w2 [.slice x xs[k].length kx] _ ((ChgF.refl _ _ _ _ _).only on2 qG d1 bl) (fun f c hf => by rw [on2.cell bl d1]; exact hc f c hf) ⟨_, rfl, L, H, qG, tr⟩
   rw [SET.out] at up
   have on3 : OnlyF F w w2 := on.trans (.of_only on2 fun k a b => (pG k (qG k a b)).1)
   clear d3 hc tr tu c0
   go_wp2_with fail
   go_roundw
   case rel => exact ⟨k + 1, _, by omega, by go_num, rfl, Q2.out, on3, up⟩
   case measure => simp [intOf]; omega
  ·obtain rfl : k = xs.length := by omega
   rw [mix_end] at ht
   have E : Hid (q = ((m + tot fL xs : Nat) : Int)) := Lib.hid (by have := HQ.out; rwa [List.take_length] at this)
   clear HQ
   go_wp2_with fail
   go_ret
   exact ⟨by rw [E.out]; rfl, on, ht⟩

set_option maxRecDepth 100000 in
set_option maxHeartbeats 3200000 in
theorem markConF (F : Nat → Prop) (v) (xs : List ConC) (m : Nat) (w : World) (t : RowF FShape.con F w v xs) (hm : m + tot fC xs ≤ 8388608) :
  Calls Tryz.prog 52 #[v, .int .i64 m] w fun e w' => e = .returned (.int .i64 ((m + tot fC xs : Nat) : Int)) ∧ OnlyF F w w' ∧ RowF FShape.con F w' v (mkA gC fC m xs) := by
 obtain ⟨a, ka, rfl, la, ba⟩ := t.shape
 go_enter Tryz.func52, Tryz.ntmps52
 go_wp2_with fail
 go_loopw [1, 5] (fun n i wr => ∃ (k : Nat) (q : Int), k ≤ xs.length ∧ i = .int .i64 k ∧ n = .int .i64 q ∧ q = ((m + tot fC (xs.take k) : Nat) : Int) ∧ OnlyF F w wr ∧ RowF FShape.con F wr (.slice a xs.length ka) (mix gC fC m xs k)) (fun _ i _ => xs.length - (intOf i).toNat)
 case atStart => exact ⟨0, m, Nat.zero_le _, rfl, rfl, by simp [tot], OnlyF.refl _ _, t⟩
 case round =>
  obtain ⟨k, q, hk, rfl, rfl, hq, on, ht⟩ := hrel
  have HQ := Lib.hid hq
  have zs := on.size
  have hle := tot_le fC xs (k + 1)
  clear hq t
  by_cases hlt : k < xs.length
  ·have hst := tot_step (f := fC) hlt
   have hlen : (mix gC fC m xs k).length = xs.length := mix_length hk
   obtain ⟨b, off, cs, G, rfl, pb, bl, pG, hc, ⟨va, vb, vc, l1', h1', l2', h2', l3', h3', rfl, e1', e2', e3', dis, ta, tb, tc⟩, d2, d3⟩ := RowF.focus (E := FShape.con) ht (j := k) (by omega)
   obtain ⟨s1', s2', s3'⟩ := dis rfl
   rw [mix_at hlt] at ta tb tc
   obtain ⟨l1, h1, qa, ea, za, ta⟩ := ta.tight
   obtain ⟨l2, h2, qb, eb, zb', tb⟩ := tb.tight
   obtain ⟨l3, h3, qc, ec, zc', tc⟩ := tc.tight
   have s1 := iv_apart s1' qa qb ea eb
   have s2 := iv_apart s2' qa qc ea ec
   have s3 := iv_apart s3' qb qc eb ec
   have e1 : ∀ k, l1 ≤ k → k < h1 → G k := fun k a b => e1' k (qa k a b).1 (qa k a b).2
   have e2 : ∀ k, l2 ≤ k → k < h2 → G k := fun k a b => e2' k (qb k a b).1 (qb k a b).2
   have e3 : ∀ k, l3 ≤ k → k < h3 → G k := fun k a b => e3' k (qc k a b).1 (qc k a b).2
   have nb1 := iv_not e1 (fun h => (pG b h).2.2 rfl)
   have nb2 := iv_not e2 (fun h => (pG b h).2.2 rfl)
   have nb3 := iv_not e3 (fun h => (pG b h).2.2 rfl)
   clear qa qb qc ea eb ec s1' s2' s3' e1' e2' e3' dis
   have c0 : wr.cell? ⟨b, off + k * 3, none⟩ = some va := hc 0 _ rfl
   have c1 : wr.cell? ⟨b, off + k * 3 + 1, none⟩ = some vb := hc 1 _ rfl
   have c2 : wr.cell? ⟨b, off + k * 3 + 2, none⟩ = some vc := hc 2 _ rfl
   obtain ⟨x, kx, rfl, lx, bx⟩ := ta.shape
   obtain ⟨y, ky, rfl, ly, by'⟩ := tb.shape
   obtain ⟨z, kz, rfl, lz, bz⟩ := tc.shape
   have q0 : 0 ≤ q := by have := HQ.out; omega
   have ef : fC xs[k] = 2 * xs[k].a.length + 2 * xs[k].b.length + 2 * xs[k].c.length := rfl
   have q1 : q + 2 * (xs[k].a.length : Int) + 2 * (xs[k].b.length : Int) + 2 * (xs[k].c.length : Int) ≤ 8388608 := by have := HQ.out; omega
   have SET : Hid ((mix gC fC m xs k).set k ⟨marks q.toNat xs[k].a.length, marks (q + 2 * (xs[k].a.length : Int)).toNat xs[k].b.length, marks (q + 2 * (xs[k].a.length : Int) + 2 * (xs[k].b.length : Int)).toNat xs[k].c.length⟩ = mix gC fC m xs (k + 1)) := Lib.hid (by
    rw [← mix_set hlt]; have := HQ.out
    rw [show (q + 2 * (xs[k].a.length : Int) + 2 * (xs[k].b.length : Int)).toNat = m + tot fC (xs.take k) + 2 * xs[k].a.length + 2 * xs[k].b.length from by omega, show (q + 2 * (xs[k].a.length : Int)).toNat = m + tot fC (xs.take k) + 2 * xs[k].a.length from by omega, show q.toNat = m + tot fC (xs.take k) from by omega]; rfl)
   have Q2 : Hid (q + 2 * (xs[k].a.length : Int) + 2 * (xs[k].b.length : Int) + 2 * (xs[k].c.length : Int) = ((m + tot fC (xs.take (k + 1)) : Nat) : Int)) := Lib.hid (by have := HQ.out; omega)
   have n1 : 0 ≤ q + 2 * (xs[k].a.length : Int) := by omega
   have n2 : 0 ≤ q + 2 * (xs[k].a.length : Int) + 2 * (xs[k].b.length : Int) := by omega
   clear hst hle hlen ef ht
   go_wp2_with fail
   refine (markTermS_int l1 h1 _ xs[k].a q _ ta (by omega) (by omega) q0 (by omega)).mono ?_; rintro e w2 ⟨rfl, on2, tra⟩
   have z2 := on2.size
   have tb2 := tb.only on2 (by omega) (by omega)
   have tc2 := tc.only on2 (by omega) (by omega)
   have c1' := (on2.cell bl (by omega) (off + k * 3 + 1)).trans c1
   have c2' := (on2.cell bl (by omega) (off + k * 3 + 2)).trans c2
   have bl2 : b < w2.heap.size := by omega
   clear ta tb tc c0 c1 c2
   go_wp2_with fail
   refine (markTermS_int l2 h2 _ xs[k].b (q + 2 * (xs[k].a.length : Int)) _ tb2 (by omega) (by omega) n1 (by omega)).mono ?_; rintro e w3 ⟨rfl, on3, trb⟩
   have z3 := on3.size
   have tra3 := tra.only on3 (by omega) (by omega)
   have tc3 := tc2.only on3 (by omega) (by omega)
   have c2'' := (on3.cell bl2 (by omega) (off + k * 3 + 2)).trans c2'
   have bl3 : b < w3.heap.size := by omega
   clear tra tb2 tc2 c1' c2'
   go_wp2_with fail
   refine (markTermS_int l3 h3 _ xs[k].c (q + 2 * (xs[k].a.length : Int) + 2 * (xs[k].b.length : Int)) _ tc3 (by omega) (by omega) n2 (by omega)).mono ?_; rintro e w4 ⟨rfl, on4, trc⟩
   have z4 := on4.size
   have tra4 := tra3.only on4 (by omega) (by omega)
   have trb4 := trb.only on4 (by omega) (by omega)
   have ch := (((ChgF.refl b (off + k * 3) 3 G wr).only on2 e1 nb1 bl).only on3 e2 nb2 bl).only on4 e3 nb3 bl
   have up := d3 w4 [.slice x xs[k].a.length kx, .slice y xs[k].b.length ky, .slice z xs[k].c.length kz] ⟨_, _, _⟩ ch (fun f c hf => by
    rw [on4.cell bl3 (by omega), on3.cell bl2 (by omega), on2.cell bl (by omega)]; exact hc f c hf) ⟨_, _, _, l1, h1, l2, h2, l3, h3, by simp [marks_length], e1, e2, e3, fun _ => ⟨s1, s2, s3⟩, tra4, trb4, trc⟩
   rw [SET.out] at up
   have on5 : OnlyF F w w4 := ((on.trans (.of_only on2 fun k a b => (pG k (e1 k a b)).1)).trans (.of_only on3 fun k a b => (pG k (e2 k a b)).1)).trans (.of_only on4 fun k a b => (pG k (e3 k a b)).1)
   clear d3 hc tra4 trb4 trc tra3 trb tc3 ch c2''
   go_wp2_with fail
   go_roundw
   case rel => exact ⟨k + 1, _, by omega, by go_num, rfl, Q2.out, on5, up⟩
   case measure => simp [intOf]; omega
  ·obtain rfl : k = xs.length := by omega
   rw [mix_end] at ht
   have E : Hid (q = ((m + tot fC xs : Nat) : Int)) := Lib.hid (by have := HQ.out; rwa [List.take_length] at this)
   clear HQ
   go_wp2_with fail
   go_ret
   exact ⟨by rw [E.out]; rfl, on, ht⟩

set_option maxRecDepth 100000 in
set_option maxHeartbeats 3200000 in
theorem markHintF (F : Nat → Prop) (v) (xs : List HintC) (m : Nat) (w : World) (t : RowF FShape.hint F w v xs) (hm : m + tot fH xs ≤ 8388608) :
  Calls Tryz.prog 51 #[v, .int .i64 m] w fun e w' => e = .returned (.int .i64 ((m + tot fH xs : Nat) : Int)) ∧ OnlyF F w w' ∧ RowF FShape.hint F w' v (mkA gH fH m xs) := by
 obtain ⟨a, ka, rfl, la, ba⟩ := t.shape
 go_enter Tryz.func51, Tryz.ntmps51
 go_wp2_with fail
 go_loopw [1, 5] (fun n i wr => ∃ (k : Nat) (q : Int), k ≤ xs.length ∧ i = .int .i64 k ∧ n = .int .i64 q ∧ q = ((m + tot fH (xs.take k) : Nat) : Int) ∧ OnlyF F w wr ∧ RowF FShape.hint F wr (.slice a xs.length ka) (mix gH fH m xs k)) (fun _ i _ => xs.length - (intOf i).toNat)
 case atStart => exact ⟨0, m, Nat.zero_le _, rfl, rfl, by simp [tot], OnlyF.refl _ _, t⟩
 case round =>
  obtain ⟨k, q, hk, rfl, rfl, hq, on, ht⟩ := hrel
  have HQ := Lib.hid hq
  have zs := on.size
  have hle := tot_le fH xs (k + 1)
  clear hq t
  by_cases hlt : k < xs.length
  ·have hst := tot_step (f := fH) hlt
   have hlen : (mix gH fH m xs k).length = xs.length := mix_length hk
   obtain ⟨b, off, cs, G, rfl, pb, bl, pG, hc, ⟨va, vb, l1', h1', l2', h2', rfl, f0, f3, e1', e2', dis, ta, tb⟩, d2, d3⟩ := RowF.focus (E := FShape.hint) ht (j := k) (by omega)
   have s1' := dis rfl
   rw [mix_at hlt] at ta tb
   obtain ⟨l1, h1, qa, ea, za, ta⟩ := ta.tight
   obtain ⟨l2, h2, qb, eb, zb', tb⟩ := tb.tight
   have s1 := iv_apart s1' qa qb ea eb
   have e1 : ∀ k, l1 ≤ k → k < h1 → G k := fun k a b => e1' k (qa k a b).1 (qa k a b).2
   have e2 : ∀ k, l2 ≤ k → k < h2 → G k := fun k a b => e2' k (qb k a b).1 (qb k a b).2
   have nb1 := iv_not e1 (fun h => (pG b h).2.2 rfl)
   have nb2 := iv_not e2 (fun h => (pG b h).2.2 rfl)
   clear qa qb ea eb s1' e1' e2'
   have c0 : wr.cell? ⟨b, off + k * 4, none⟩ = some _ := hc 0 _ rfl
   have c1 : wr.cell? ⟨b, off + k * 4 + 1, none⟩ = some va := hc 1 _ rfl
   have c2 : wr.cell? ⟨b, off + k * 4 + 2, none⟩ = some vb := hc 2 _ rfl
   have c3 : wr.cell? ⟨b, off + k * 4 + 3, none⟩ = some _ := hc 3 _ rfl
   rw [mix_at hlt] at c0 c3
   clear hc f0 f3 dis
   obtain ⟨x, kx, rfl, lx, bx⟩ := ta.shape
   obtain ⟨y, ky, rfl, ly, by'⟩ := tb.shape
   have fz0 := d2 (off + k * 4)
   have fz3 := d2 (off + k * 4 + 3)
   have q0 : 0 ≤ q := by have := HQ.out; omega
   have ef : fH xs[k] = 2 + 2 * xs[k].a.length + 2 * xs[k].b.length := rfl
   have q1 : q + 1 + 2 * (xs[k].a.length : Int) + 2 * (xs[k].b.length : Int) + 1 ≤ 8388608 := by have := HQ.out; omega
   have SET : Hid ((mix gH fH m xs k).set k ⟨q, marks (q + 1).toNat xs[k].a.length, marks (q + 1 + 2 * (xs[k].a.length : Int)).toNat xs[k].b.length, q + 1 + 2 * (xs[k].a.length : Int) + 2 * (xs[k].b.length : Int)⟩ = mix gH fH m xs (k + 1)) := Lib.hid (by
    rw [← mix_set hlt]; have := HQ.out
    rw [show (q + 1 + 2 * (xs[k].a.length : Int)).toNat = m + tot fH (xs.take k) + 1 + 2 * xs[k].a.length from by omega, show (q + 1).toNat = m + tot fH (xs.take k) + 1 from by omega]
    rw [show q + 1 + 2 * (xs[k].a.length : Int) + 2 * (xs[k].b.length : Int) = ((m + tot fH (xs.take k) + 1 + 2 * xs[k].a.length + 2 * xs[k].b.length : Nat) : Int) from by omega, show q = ((m + tot fH (xs.take k) : Nat) : Int) from this]; rfl)
   have Q2 : Hid (q + 1 + 2 * (xs[k].a.length : Int) + 2 * (xs[k].b.length : Int) + 1 = ((m + tot fH (xs.take (k + 1)) : Nat) : Int)) := Lib.hid (by have := HQ.out; omega)
   have n1 : 0 ≤ q + 1 := by omega
   have n2 : 0 ≤ q + 1 + 2 * (xs[k].a.length : Int) := by omega
   have n3 : 0 ≤ q + 1 + 2 * (xs[k].a.length : Int) + 2 * (xs[k].b.length : Int) := by omega
   clear hst hle hlen ef ht d2
   have c1s : ∀ u, (wr.setCell ⟨b, off + k * 4, none⟩ u).cell? ⟨b, off + k * 4 + 1, none⟩ = some (.slice x xs[k].a.length kx) := fun u => (World.cell?_setCell_other _ _ _ _ (by simp)).trans c1
   go_wp2_with fail
   refine name_call fun w1 hw1 => ?_
   have z1 : w1.heap.size = wr.heap.size := by rw [hw1]; simp [World.setCell]
   have ta1 : Terms true l1 h1 w1 _ _ := ta.agree (by rw [hw1]; exact same_set2 (by omega))
   have tb1 : Terms true l2 h2 w1 _ _ := tb.agree (by rw [hw1]; exact same_set2 (by omega))
   have g0 : w1.cell? ⟨b, off + k * 4, none⟩ = some (.int .i64 q) := by rw [hw1]; exact World.cell?_setCell_same _ _ _ c0
   have g1 : w1.cell? ⟨b, off + k * 4 + 1, none⟩ = some (.slice x xs[k].a.length kx) := by rw [hw1]; exact c1s _
   have g2 : w1.cell? ⟨b, off + k * 4 + 2, none⟩ = some (.slice y xs[k].b.length ky) := by rw [hw1]; exact (World.cell?_setCell_other _ _ _ _ (by simp)).trans c2
   have g3 : w1.cell? ⟨b, off + k * 4 + 3, none⟩ = some (.int .i64 xs[k].k) := by rw [hw1]; exact (World.cell?_setCell_other _ _ _ _ (by simp)).trans c3
   have fz1 : w1.frozen? ⟨b, off + k * 4 + 3, none⟩ = false := by rw [hw1, World.frozen?_setCell]; exact fz3
   have on1 : OnlyF F w w1 := by rw [hw1]; exact on.setCell (p := ⟨b, off + k * 4, none⟩) pb _
   have ch1 : ChgF b (off + k * 4) 4 G wr w1 := by rw [hw1]; exact (ChgF.refl _ _ _ _ _).setCell (Nat.le_refl _) (by omega) _
   have bl1 : b < w1.heap.size := by omega
   clear hw1 c0 c1 c2 c3 c1s ta tb fz0 fz3
   refine (markTermS_int l1 h1 _ xs[k].a (q + 1) _ ta1 (by omega) (by omega) n1 (by omega)).mono ?_; rintro e w2 ⟨rfl, on2, tra⟩
   have z2 := on2.size
   have tb2 := tb1.only on2 (by omega) (by omega)
   have i0 := (on2.cell bl1 (by omega) (off + k * 4)).trans g0
   have i1 := (on2.cell bl1 (by omega) (off + k * 4 + 1)).trans g1
   have i2 := (on2.cell bl1 (by omega) (off + k * 4 + 2)).trans g2
   have i3 := (on2.cell bl1 (by omega) (off + k * 4 + 3)).trans g3
   have fz2 := (on2.frozen bl1 (by omega) (off + k * 4 + 3)).trans fz1
   have ch2 := ch1.only on2 e1 nb1 bl
   have bl2 : b < w2.heap.size := by omega
   clear g0 g1 g2 g3 fz1 ta1 tb1 ch1
   go_wp2_with fail
   refine (markTermS_int l2 h2 _ xs[k].b (q + 1 + 2 * (xs[k].a.length : Int)) _ tb2 (by omega) (by omega) n2 (by omega)).mono ?_; rintro e w3 ⟨rfl, on3, trb⟩
   have z3 := on3.size
   have tra3 := tra.only on3 (by omega) (by omega)
   have j0 := (on3.cell bl2 (by omega) (off + k * 4)).trans i0
   have j1 := (on3.cell bl2 (by omega) (off + k * 4 + 1)).trans i1
   have j2 := (on3.cell bl2 (by omega) (off + k * 4 + 2)).trans i2
   have j3 := (on3.cell bl2 (by omega) (off + k * 4 + 3)).trans i3
   have fzl := (on3.frozen bl2 (by omega) (off + k * 4 + 3)).trans fz2
   have ch3 := (ch2.only on3 e2 nb2 bl).setCell (i := off + k * 4 + 3) (by omega) (by omega) (.int .i64 (q + 1 + 2 * (xs[k].a.length : Int) + 2 * (xs[k].b.length : Int)))
   have ua := tra3.agree (same_set2 (b := b) (o := off + k * 4 + 3) (u := .int .i64 (q + 1 + 2 * (xs[k].a.length : Int) + 2 * (xs[k].b.length : Int))) (by omega))
   have ub := trb.agree (same_set2 (b := b) (o := off + k * 4 + 3) (u := .int .i64 (q + 1 + 2 * (xs[k].a.length : Int) + 2 * (xs[k].b.length : Int))) (by omega))
   have r0 := (World.cell?_setCell_other w3 ⟨b, off + k * 4 + 3, none⟩ ⟨b, off + k * 4, none⟩ (.int .i64 (q + 1 + 2 * (xs[k].a.length : Int) + 2 * (xs[k].b.length : Int))) (by simp)).trans j0
   have r1 := (World.cell?_setCell_other w3 ⟨b, off + k * 4 + 3, none⟩ ⟨b, off + k * 4 + 1, none⟩ (.int .i64 (q + 1 + 2 * (xs[k].a.length : Int) + 2 * (xs[k].b.length : Int))) (by simp)).trans j1
   have r2 := (World.cell?_setCell_other w3 ⟨b, off + k * 4 + 3, none⟩ ⟨b, off + k * 4 + 2, none⟩ (.int .i64 (q + 1 + 2 * (xs[k].a.length : Int) + 2 * (xs[k].b.length : Int))) (by simp)).trans j2
   have r3 := World.cell?_setCell_same w3 ⟨b, off + k * 4 + 3, none⟩ (.int .i64 (q + 1 + 2 * (xs[k].a.length : Int) + 2 * (xs[k].b.length : Int))) j3
   have up := d3 _ [.int .i64 q, .slice x xs[k].a.length kx, .slice y xs[k].b.length ky, .int .i64 (q + 1 + 2 * (xs[k].a.length : Int) + 2 * (xs[k].b.length : Int))] ⟨q, _, _, q + 1 + 2 * (xs[k].a.length : Int) + 2 * (xs[k].b.length : Int)⟩ ch3 (fun f c hf => by
    match f, hf with
    | 0, hf => simp only [List.getElem?_cons_zero, Option.some.injEq] at hf; subst hf; exact r0
    | 1, hf => simp only [List.getElem?_cons_succ, List.getElem?_cons_zero, Option.some.injEq] at hf; subst hf; exact r1
    | 2, hf => simp only [List.getElem?_cons_succ, List.getElem?_cons_zero, Option.some.injEq] at hf; subst hf; exact r2
    | 3, hf => simp only [List.getElem?_cons_succ, List.getElem?_cons_zero, Option.some.injEq] at hf; subst hf; exact r3)
    ⟨_, _, l1, h1, l2, h2, by simp [marks_length], by unfold Fits; simp only; omega, by unfold Fits; simp only; omega, e1, e2, fun _ => s1, ua, ub⟩
   rw [SET.out] at up
   have on5 := ((on1.trans (.of_only on2 fun k a b => (pG k (e1 k a b)).1)).trans (.of_only on3 fun k a b => (pG k (e2 k a b)).1)).setCell (p := ⟨b, off + k * 4 + 3, none⟩) pb (.int .i64 (q + 1 + 2 * (xs[k].a.length : Int) + 2 * (xs[k].b.length : Int)))
   clear d3 tra tra3 trb ua ub ch2 ch3 r0 r1 r2 r3 i0 i1 i2 i3 fz2 tb2 j0 j1 j2
   go_wp2_with fail
   go_roundw
   case rel => exact ⟨k + 1, _, by omega, by go_num, rfl, Q2.out, on5, up⟩
   case measure => simp [intOf]; omega
  ·obtain rfl : k = xs.length := by omega
   rw [mix_end] at ht
   have E : Hid (q = ((m + tot fH xs : Nat) : Int)) := Lib.hid (by have := HQ.out; rwa [List.take_length] at this)
   clear HQ
   go_wp2_with fail
   go_ret
   exact ⟨by rw [E.out]; rfl, on, ht⟩

/-- A system that may be written, on blocks of F. -/
def SysF (F : Nat → Prop) (w : World) (vi vo vh vc : Value) (s : SysC) : Prop :=
 vi = .int .i64 s.ins ∧ Fits s.ins ∧ ∃ F1 F2 F3 : Nat → Prop, (∀ k, F1 k → F k) ∧ (∀ k, F2 k → F k) ∧ (∀ k, F3 k → F k) ∧ (∀ k, F k → k < w.heap.size) ∧ (∀ k, F1 k → ¬ F2 k) ∧ (∀ k, F1 k → ¬ F3 k) ∧ (∀ k, F2 k → ¬ F3 k) ∧
  RowF FShape.lin F1 w vo s.outs ∧ RowF FShape.hint F2 w vh s.hints ∧ RowF FShape.con F3 w vc s.cons
theorem SysF.agree {F : Nat → Prop} {w w' : World} {vi vo vh vc : Value} {s : SysC} (t : SysF F w vi vo vh vc s) (a : SameF F w w') (hz : w.heap.size ≤ w'.heap.size) : SysF F w' vi vo vh vc s := by
 obtain ⟨e, f, F1, F2, F3, p1, p2, p3, pz, d1, d2, d3, t1, t2, t3⟩ := t
 exact ⟨e, f, F1, F2, F3, p1, p2, p3, fun k h => Nat.lt_of_lt_of_le (pz k h) hz, d1, d2, d3, t1.agree (a.sub p1) hz, t2.agree (a.sub p2) hz, t3.agree (a.sub p3) hz⟩
theorem SysF.shape {F : Nat → Prop} {w : World} {vi vo vh vc : Value} {s : SysC} (t : SysF F w vi vo vh vc s) : ∃ ao ko ah kh ac kc, vi = .int .i64 s.ins ∧ vo = .slice ao s.outs.length ko ∧ vh = .slice ah s.hints.length kh ∧ vc = .slice ac s.cons.length kc ∧
  s.outs.length ≤ ko ∧ ko ≤ 9223372036854775807 ∧ s.hints.length ≤ kh ∧ kh ≤ 9223372036854775807 ∧ s.cons.length ≤ kc ∧ kc ≤ 9223372036854775807 ∧ Fits s.ins := by
 obtain ⟨e, f, F1, F2, F3, p1, p2, p3, pz, d1, d2, d3, t1, t2, t3⟩ := t
 obtain ⟨ao, ko, e1, q1, q2⟩ := t1.shape
 obtain ⟨ah, kh, e2, q3, q4⟩ := t2.shape
 obtain ⟨ac, kc, e3, q5, q6⟩ := t3.shape
 exact ⟨ao, ko, ah, kh, ac, kc, e, e1, e2, e3, q1, q2, q3, q4, q5, q6, f⟩
theorem RowF.read {α : Type} {E : FShape α} {F : Nat → Prop} {w : World} {v : Value} {xs : List α} (t : RowF E F w v xs) : (Shape.row E.sh).rep false 0 w.heap.size w [v] xs := by
 obtain ⟨a, cap, e, h1, h2, h4⟩ := t
 refine ⟨a, cap, by rw [e], h1, h2, ?_⟩
 rcases h4 with h4 | ⟨b, off, ea, hF, hb, hf, C, G, d1, d2, hc⟩
 ·exact .inl h4
 ·refine .inr ⟨b, off, ea, Nat.zero_le _, hb, fun h => (by cases h), C, fun _ => 0, fun _ => w.heap.size, fun h => (by cases h), fun j x hj => ?_⟩
  obtain ⟨a1, a2, a3⟩ := hc j x hj
  exact ⟨Nat.le_refl _, Nat.le_refl _, fun f c hfc => by rw [E.wdsh]; exact a2 f c hfc, E.read a3⟩
theorem SysF.read {F : Nat → Prop} {w : World} {vi vo vh vc : Value} {s : SysC} (t : SysF F w vi vo vh vc s) : SysR false 0 w.heap.size w vi vo vh vc s := by
 obtain ⟨e, f, F1, F2, F3, p1, p2, p3, pz, d1, d2, d3, t1, t2, t3⟩ := t
 exact ⟨e, f, 0, _, 0, _, 0, _, Nat.le_refl _, Nat.le_refl _, Nat.le_refl _, Nat.le_refl _, Nat.le_refl _, Nat.le_refl _, fun h => (by cases h), t1.read, t2.read, t3.read⟩

set_option maxRecDepth 100000 in
set_option maxHeartbeats 3200000 in
theorem markSysF (F : Nat → Prop) (vi vo vh vc) (s : SysC) (m : Nat) (w : World) (t : SysF F w vi vo vh vc s) (hm : m + totS s ≤ 8388608) :
  Calls Tryz.prog 14 #[.agg #[vi, vo, vh, vc], .int .i64 m] w fun e w' => e = .returned (.int .i64 ((m + totS s : Nat) : Int)) ∧ OnlyF F w w' ∧ SysF F w' vi vo vh vc (mkS m s) := by
 obtain ⟨ao, ko, ah, kh, ac, kc, rfl, rfl, rfl, rfl, lo, bo, lh, bh, lc, bc, fi⟩ := t.shape
 obtain ⟨-, -, F1, F2, F3, p1, p2, p3, pz, s1, s2, s3, tO, tH, tC⟩ := t
 have hm' : m + tot fL s.outs + tot fH s.hints + tot fC s.cons ≤ 8388608 := by unfold totS at hm; omega
 rw [show m + totS s = m + tot fL s.outs + tot fH s.hints + tot fC s.cons from by unfold totS; omega]
 clear hm
 obtain ⟨m1, hm1⟩ : ∃ q : Nat, q = m + tot fL s.outs := ⟨_, rfl⟩
 obtain ⟨m2, hm2⟩ : ∃ q : Nat, q = m1 + tot fH s.hints := ⟨_, rfl⟩
 have MK : Hid (mkS m s = ⟨s.ins, mkA gL fL m s.outs, mkA gH fH m1 s.hints, mkA gC fC m2 s.cons⟩) := Lib.hid (by unfold mkS; rw [hm2, hm1])
 have N1 := markLinF F1 (.slice ao s.outs.length ko) s.outs m
 have N2 := markHintF F2 (.slice ah s.hints.length kh) s.hints m1
 have N3 := markConF F3 (.slice ac s.cons.length kc) s.cons m2
 rw [← hm1] at N1
 rw [← hm2] at N2
 rw [← hm1, ← hm2]
 rw [← hm1, ← hm2] at hm'
 have H1 := Lib.hid N1
 have H2 := Lib.hid N2
 have H3 := Lib.hid N3
 have B1 : m1 ≤ 8388608 := by omega
 have B2 : m2 ≤ 8388608 := by omega
 have C1 : m + tot fL s.outs ≤ 8388608 := by omega
 have C2 : m1 + tot fH s.hints ≤ 8388608 := by omega
 clear N1 N2 N3 hm1 hm2
 go_enter Tryz.func14, Tryz.ntmps14
 go_wp2_with fail
 refine name_call fun w1 hw1 => ?_
 have b1 : Below w.heap.size w w1 := by rw [hw1]; (repeat (with_reducible first | exact bR _ _ | assumption | refine bD ?_ | refine bN ?_ _ | refine bA ?_ _ | refine bS ?_ _))
 have o1 : OnlyF F w w1 := .of_below b1
 have z1 : w.heap.size + 1 ≤ w1.heap.size := by rw [hw1]; simp
 have cH : w1.cell? ⟨w.heap.size, 2, none⟩ = some (.slice ah s.hints.length kh) := by rw [hw1]; first | (simp; done) | go_simp
 have cC : w1.cell? ⟨w.heap.size, 3, none⟩ = some (.slice ac s.cons.length kc) := by rw [hw1]; first | (simp; done) | go_simp
 have tO1 := tO.agree (SameF.of_below b1 fun k h => pz k (p1 k h)) b1.size
 have tH1 := tH.agree (SameF.of_below b1 fun k h => pz k (p2 k h)) b1.size
 have tC1 := tC.agree (SameF.of_below b1 fun k h => pz k (p3 k h)) b1.size
 have n1 : ¬ F1 w.heap.size := fun h => by have := pz _ (p1 _ h); omega
 have n2 : ¬ F2 w.heap.size := fun h => by have := pz _ (p2 _ h); omega
 clear hw1 tO tH tC
 refine (H1.out w1 tO1 B1).mono ?_; rintro e w2 ⟨rfl, on2, rO⟩
 have z2 := on2.size
 have o2 := o1.trans (on2.wide p1)
 have cH2 := (on2.cell (b := w.heap.size) (by omega) n1 2).trans cH
 have cC2 := (on2.cell (b := w.heap.size) (by omega) n1 3).trans cC
 have tH2 := tH1.agree (on2.same fun k h => ⟨by have := pz k (p2 k h); omega, fun q => s1 k q h⟩) z2
 have tC2 := tC1.agree (on2.same fun k h => ⟨by have := pz k (p3 k h); omega, fun q => s2 k q h⟩) z2
 have lw2 : w.heap.size < w2.heap.size := by omega
 clear cH cC tO1 tH1 tC1
 go_wp2_with fail
 refine (H2.out w2 tH2 B2).mono ?_; rintro e w3 ⟨rfl, on3, rH⟩
 have z3 := on3.size
 have o3 := o2.trans (on3.wide p2)
 have cC3 := (on3.cell (b := w.heap.size) (by omega) n2 3).trans cC2
 have rO3 := rO.agree (on3.same fun k h => ⟨by have := pz k (p1 k h); omega, s1 k h⟩) z3
 have tC3 := tC2.agree (on3.same fun k h => ⟨by have := pz k (p3 k h); omega, fun q => s3 k q h⟩) z3
 have lw3 : w.heap.size < w3.heap.size := by omega
 clear cH2 cC2 tH2 tC2 rO lw2
 go_wp2_with fail
 refine (H3.out w3 tC3 hm').mono ?_; rintro e w4 ⟨rfl, on4, rC⟩
 have z4 := on4.size
 have o4 := o3.trans (on4.wide p3)
 have rO4 := rO3.agree (on4.same fun k h => ⟨by have := pz k (p1 k h); omega, s2 k h⟩) z4
 have rH4 := rH.agree (on4.same fun k h => ⟨by have := pz k (p2 k h); omega, s3 k h⟩) z4
 clear cC3 rO3 rH tC3
 go_wp2_with fail
 go_ret
 exact ⟨rfl, o4, by rw [MK.out]; exact ⟨rfl, fi, F1, F2, F3, p1, p2, p3, fun k h => by have := pz k h; omega, s1, s2, s3, rO4, rH4, rC⟩⟩
end Go.Proofs.YthipgpbapdambaaGreat.L

/- What was marked is found so: slices of combinations, hints, constraints, and systems. -/
namespace Go.Proofs.YthipgpbapdambaaGreat.L
open Go.RowKit Go.Proofs.YthipgpbapdambaaGreat.S
set_option linter.unusedVariables false
set_option linter.unusedSimpArgs false

theorem mkA_get {α : Type} (g : Nat → α → α) (f : α → Nat) (l : List α) (m k : Nat) (h : k < l.length) (h' : k < (mkA g f m l).length) : (mkA g f m l)[k] = g (m + tot f (l.take k)) l[k] := by
 have := mkA_at g f l m k h
 rw [List.getElem?_eq_getElem h'] at this
 exact Option.some.inj this

end Go.Proofs.YthipgpbapdambaaGreat.L
