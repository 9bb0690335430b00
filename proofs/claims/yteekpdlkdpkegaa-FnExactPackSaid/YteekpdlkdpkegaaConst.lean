/- Constants, variables, factors: the program's functions and their models. -/
import Derived.Test.YteekpdlkdpkegaaLinOk
namespace Go.Proofs.Yteekpdlkdpkegaa.L
open Go.RowKit Go.Proofs.Yteekpdlkdpkegaa.S
set_option linter.unusedVariables false
set_option linter.unusedSimpArgs false

/-- A row of one term, just made. -/
theorem Terms.one (w : World) (x y : Int) (fx : Fits x) (fy : Fits y) : Terms true w.heap.size (w.heap.size + 1) (w.alloc (.cells #[.int .i64 x, .int .i64 y] 141)) (.slice (some ⟨w.heap.size, 0, none⟩) 1 1) [(x, y)] := by
  refine ⟨_, 1, rfl, Nat.le_refl _, by omega, ?_, .inr ⟨w.heap.size, 0, rfl, Nat.le_refl _, by omega, fun _ j => World.frozen?_alloc_at _ _ _ _ rfl, fun j t hj => ?_⟩⟩
  · intro t ht
    simp at ht
    subst ht
    exact ⟨fx, fy⟩
  · match j, hj with
    | 0, hj =>
      simp at hj
      subst hj
      exact ⟨by rw [World.cell?_alloc_at _ _ _ _ rfl]; rfl, by rw [World.cell?_alloc_at _ _ _ _ rfl]; rfl⟩

/-- The constant k. -/
def constOf (k : Int) : List T := if k % 2147483647 = 0 then [] else [(0, k % 2147483647)]
/-- The variable v. -/
def varOf (v : Int) : List T := if 0 ≤ v ∧ v < 3000 then [(v, 1)] else []
def varOk (v : Int) : Bool := decide (0 ≤ v ∧ v < 3000)

theorem constOf_len (k : Int) : (constOf k).length ≤ 1 := by unfold constOf; split <;> simp
theorem varOf_len (v : Int) : (varOf v).length ≤ 1 := by unfold varOf; split <;> simp

/-- What a function that returns a linear combination ends in. -/
def RetLin (w : World) (ts : List T) (e : Ending) (w' : World) : Prop := ∃ u, e = .returned (.agg #[u]) ∧ Below w.heap.size w w' ∧ Terms true w.heap.size w'.heap.size w' u ts
def RetLinOk (w : World) (ts : List T) (ok : Bool) (e : Ending) (w' : World) : Prop := ∃ u, e = .returned (.tuple #[.agg #[u], .bool ok]) ∧ Below w.heap.size w w' ∧ Terms true w.heap.size w'.heap.size w' u ts

set_option maxHeartbeats 800000 in
theorem const_impl (k : Int) (w : World) (k0 : -9223372036854775808 ≤ k) (k1 : k ≤ 9223372036854775807) :
    Calls Try.prog 131 #[.int .i64 k] w fun e w' => ∃ u, e = .returned (.agg #[u]) ∧ Below w.heap.size w w' ∧ Terms true w.heap.size w'.heap.size w' u (constOf k) := by
  by_cases h : k % 2147483647 = 0
  · rw [show constOf k = [] from if_pos h]
    have hb : (k % 2147483647 == 0) = true := by simp [h]
    clear h
    go_enter Try.func131, Try.ntmps131
    go_wp2_with (go_at_call 157; refine (fof_impl k _ k0 k1).mono ?_; rintro e w' ⟨rfl, rfl⟩)
    exact bodyPost_ret (v := .agg #[.slice none 0 0]) (by simp [results, Try.results131, go_sem]) rfl ⟨_, rfl, by (repeat (first | with_reducible exact Below.refl _ _ | with_reducible assumption | with_reducible refine Below.drew ?_ | with_reducible refine bdrewN ?_ _ | ((with_reducible refine balloc ?_ ?_ _); (focus (first | with_reducible exact Nat.le_refl _ | (simp; done) | omega | (simp; omega) | exact Nat.le_refl _))) | ((with_reducible refine bset ?_ ?_ _); (focus (first | with_reducible exact Nat.le_refl _ | (simp; done) | omega | (simp; omega) | exact Nat.le_refl _))))), Terms.nil _ _ _ _⟩
  · rw [show constOf k = [(0, k % 2147483647)] from if_neg h]
    have hb : (k % 2147483647 == 0) = false := by simp [h]
    clear h
    go_enter Try.func131, Try.ntmps131
    go_wp2_with (go_at_call 157; refine (fof_impl k _ k0 k1).mono ?_; rintro e w' ⟨rfl, rfl⟩)
    refine bodyPost_ret (v := .agg #[.slice (some ⟨w.heap.size + 1, 0, none⟩) 1 1]) (by simp [results, Try.results131, go_sem]) rfl ⟨_, rfl, by (repeat (first | with_reducible exact Below.refl _ _ | with_reducible assumption | with_reducible refine Below.drew ?_ | with_reducible refine bdrewN ?_ _ | ((with_reducible refine balloc ?_ ?_ _); (focus (first | with_reducible exact Nat.le_refl _ | (simp; done) | omega | (simp; omega) | exact Nat.le_refl _))) | ((with_reducible refine bset ?_ ?_ _); (focus (first | with_reducible exact Nat.le_refl _ | (simp; done) | omega | (simp; omega) | exact Nat.le_refl _))))), ?_⟩
    have h1 := fun o => Terms.one (w.alloc o) 0 (k % 2147483647) (by unfold Fits; omega) (by unfold Fits; omega)
    simp only [World.size_alloc] at h1
    exact (h1 _).mono (by omega) (by simp)

set_option maxHeartbeats 800000 in
theorem l2const_any (k : Int) (w : World) (k0 : 0 ≤ k) (k1 : k < 2147483647) :
    Calls Try.prog 127 #[.int .i64 k] w fun e w' => ∃ u, e = .returned (.agg #[u]) ∧ Below w.heap.size w w' ∧ Terms true w.heap.size w'.heap.size w' u (constOf k) := by
  by_cases h : k = 0
  · rw [show constOf k = [] from if_pos (by omega)]
    subst h
    go_enter Try.func127, Try.ntmps127
    go_wp2_with fail
    exact bodyPost_ret (v := .agg #[.slice none 0 0]) (by simp [results, Try.results127, go_sem]) rfl ⟨_, rfl, by (repeat (first | with_reducible exact Below.refl _ _ | with_reducible assumption | with_reducible refine Below.drew ?_ | with_reducible refine bdrewN ?_ _ | ((with_reducible refine balloc ?_ ?_ _); (focus (first | with_reducible exact Nat.le_refl _ | (simp; done) | omega | (simp; omega) | exact Nat.le_refl _))) | ((with_reducible refine bset ?_ ?_ _); (focus (first | with_reducible exact Nat.le_refl _ | (simp; done) | omega | (simp; omega) | exact Nat.le_refl _))))), Terms.nil _ _ _ _⟩
  · rw [show constOf k = [(0, k)] from (if_neg (by omega)).trans (by rw [Int.emod_eq_of_lt k0 k1])]
    have hb : (k == 0) = false := by simp [h]
    clear h
    go_enter Try.func127, Try.ntmps127
    go_wp2_with fail
    refine bodyPost_ret (v := .agg #[.slice (some ⟨w.heap.size + 1, 0, none⟩) 1 1]) (by simp [results, Try.results127, go_sem]) rfl ⟨_, rfl, by (repeat (first | with_reducible exact Below.refl _ _ | with_reducible assumption | with_reducible refine Below.drew ?_ | with_reducible refine bdrewN ?_ _ | ((with_reducible refine balloc ?_ ?_ _); (focus (first | with_reducible exact Nat.le_refl _ | (simp; done) | omega | (simp; omega) | exact Nat.le_refl _))) | ((with_reducible refine bset ?_ ?_ _); (focus (first | with_reducible exact Nat.le_refl _ | (simp; done) | omega | (simp; omega) | exact Nat.le_refl _))))), ?_⟩
    have h1 := fun o => Terms.one (w.alloc o) 0 k (by unfold Fits; omega) (by unfold Fits; omega)
    simp only [World.size_alloc] at h1
    exact (h1 _).mono (by omega) (by simp)

theorem constOf_mod (k : Int) : constOf (k % 2147483647) = constOf k := by unfold constOf; rw [Int.emod_emod]

set_option maxHeartbeats 800000 in
theorem varOf_impl (v : Int) (w : World) (v0 : -9223372036854775808 ≤ v) (v1 : v ≤ 9223372036854775807) :
    Calls Try.prog 154 #[.int .i64 v] w fun e w' => ∃ u, e = .returned (.tuple #[.agg #[u], .bool (varOk v)]) ∧ Below w.heap.size w w' ∧ Terms true w.heap.size w'.heap.size w' u (varOf v) := by
  by_cases h : 0 ≤ v ∧ v < 3000
  · rw [show varOf v = [(v, 1)] from if_pos h, show varOk v = true from decide_eq_true h]
    obtain ⟨h0, h1⟩ := h
    go_enter Try.func154, Try.ntmps154
    go_wp2_with fail
    refine bodyPost_ret (v := .tuple #[.agg #[.slice (some ⟨w.heap.size + 1, 0, none⟩) 1 1], .bool true]) (by simp [results, Try.results154, go_sem]) rfl ⟨_, rfl, by (repeat (first | with_reducible exact Below.refl _ _ | with_reducible assumption | with_reducible refine Below.drew ?_ | with_reducible refine bdrewN ?_ _ | ((with_reducible refine balloc ?_ ?_ _); (focus (first | with_reducible exact Nat.le_refl _ | (simp; done) | omega | (simp; omega) | exact Nat.le_refl _))) | ((with_reducible refine bset ?_ ?_ _); (focus (first | with_reducible exact Nat.le_refl _ | (simp; done) | omega | (simp; omega) | exact Nat.le_refl _))))), ?_⟩
    have h1 := fun o => Terms.one (w.alloc o) v 1 (by unfold Fits; omega) (by unfold Fits; omega)
    simp only [World.size_alloc] at h1
    exact (h1 _).mono (by omega) (by simp)
  · rw [show varOf v = [] from if_neg h, show varOk v = false from decide_eq_false h]
    by_cases h0 : v < 0
    · clear h
      go_enter Try.func154, Try.ntmps154
      go_wp2_with fail
      exact bodyPost_ret (v := .tuple #[.agg #[.slice none 0 0], .bool false]) (by simp [results, Try.results154, go_sem]) rfl ⟨_, rfl, by (repeat (first | with_reducible exact Below.refl _ _ | with_reducible assumption | with_reducible refine Below.drew ?_ | with_reducible refine bdrewN ?_ _ | ((with_reducible refine balloc ?_ ?_ _); (focus (first | with_reducible exact Nat.le_refl _ | (simp; done) | omega | (simp; omega) | exact Nat.le_refl _))) | ((with_reducible refine bset ?_ ?_ _); (focus (first | with_reducible exact Nat.le_refl _ | (simp; done) | omega | (simp; omega) | exact Nat.le_refl _))))), Terms.nil _ _ _ _⟩
    · have h1 : 3000 ≤ v := by omega
      clear h
      go_enter Try.func154, Try.ntmps154
      go_wp2_with fail
      exact bodyPost_ret (v := .tuple #[.agg #[.slice none 0 0], .bool false]) (by simp [results, Try.results154, go_sem]) rfl ⟨_, rfl, by (repeat (first | with_reducible exact Below.refl _ _ | with_reducible assumption | with_reducible refine Below.drew ?_ | with_reducible refine bdrewN ?_ _ | ((with_reducible refine balloc ?_ ?_ _); (focus (first | with_reducible exact Nat.le_refl _ | (simp; done) | omega | (simp; omega) | exact Nat.le_refl _))) | ((with_reducible refine bset ?_ ?_ _); (focus (first | with_reducible exact Nat.le_refl _ | (simp; done) | omega | (simp; omega) | exact Nat.le_refl _))))), Terms.nil _ _ _ _⟩

set_option maxHeartbeats 800000 in
theorem l2var_any (v : Int) (w : World) (v0 : -9223372036854775808 ≤ v) (v1 : v ≤ 9223372036854775807) :
    Calls Try.prog 150 #[.int .i64 v] w fun e w' => ∃ u, e = .returned (.agg #[u]) ∧ Below w.heap.size w w' ∧ Terms true w.heap.size w'.heap.size w' u [(v, 1)] := by
  go_enter Try.func150, Try.ntmps150
  go_wp2_with fail
  refine bodyPost_ret (v := .agg #[.slice (some ⟨w.heap.size + 1, 0, none⟩) 1 1]) (by simp [results, Try.results150, go_sem]) rfl ⟨_, rfl, by (repeat (first | with_reducible exact Below.refl _ _ | with_reducible assumption | with_reducible refine Below.drew ?_ | with_reducible refine bdrewN ?_ _ | ((with_reducible refine balloc ?_ ?_ _); (focus (first | with_reducible exact Nat.le_refl _ | (simp; done) | omega | (simp; omega) | exact Nat.le_refl _))) | ((with_reducible refine bset ?_ ?_ _); (focus (first | with_reducible exact Nat.le_refl _ | (simp; done) | omega | (simp; omega) | exact Nat.le_refl _))))), ?_⟩
  have h1 := fun o => Terms.one (w.alloc o) v 1 (by unfold Fits; omega) (by unfold Fits; omega)
  simp only [World.size_alloc] at h1
  exact (h1 _).mono (by omega) (by simp)

end Go.Proofs.Yteekpdlkdpkegaa.L
