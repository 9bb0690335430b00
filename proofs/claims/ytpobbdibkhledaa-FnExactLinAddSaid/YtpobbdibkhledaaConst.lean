/- Constants, variables, factors: the program's functions and their models. -/
import Derived.Test.YtpobbdibkhledaaLinOk
namespace Go.Proofs.Ytpobbdibkhledaa.L
open Go.RowKit Go.Proofs.Ytpobbdibkhledaa.S
set_option linter.unusedVariables false
set_option linter.unusedSimpArgs false

/-- A row of one term, just made. -/
theorem Terms.one (w : World) (x y : Int) (fx : Fits x) (fy : Fits y) : Terms true w.heap.size (w.heap.size + 1) (w.alloc (.cells #[.int .i64 x, .int .i64 y] 48)) (.slice (some ⟨w.heap.size, 0, none⟩) 1 1) [(x, y)] := by
  refine ⟨_, 1, rfl, Nat.le_refl _, by omega, ?_, .inr ⟨w.heap.size, 0, rfl, Nat.le_refl _, by omega, fun _ j => World.frozen?_alloc_at _ _ _ _ rfl, fun j t hj => ?_⟩⟩
  · intro t ht
    simp at ht
    subst ht
    exact ⟨fx, fy⟩
  · match j, hj with
    | 0, hj =>
      simp at hj
      subst hj
      exact ⟨by rw [World.cell?_alloc_at _ _ _ _ rfl]; rfl, by rw [World.cell?_alloc_at _ _ _ _ rfl]; rfl⟩

/-- The constant k. -/
def constOf (k : Int) : List T := if k % 2147483647 = 0 then [] else [(0, k % 2147483647)]
/-- The variable v. -/
def varOf (v : Int) : List T := if 0 ≤ v ∧ v < 3000 then [(v, 1)] else []
def varOk (v : Int) : Bool := decide (0 ≤ v ∧ v < 3000)

theorem constOf_len (k : Int) : (constOf k).length ≤ 1 := by unfold constOf; split <;> simp
theorem varOf_len (v : Int) : (varOf v).length ≤ 1 := by unfold varOf; split <;> simp

/-- What a function that returns a linear combination ends in. -/
def RetLin (w : World) (ts : List T) (e : Ending) (w' : World) : Prop := ∃ u, e = .returned (.agg #[u]) ∧ Below w.heap.size w w' ∧ Terms true w.heap.size w'.heap.size w' u ts
def RetLinOk (w : World) (ts : List T) (ok : Bool) (e : Ending) (w' : World) : Prop := ∃ u, e = .returned (.tuple #[.agg #[u], .bool ok]) ∧ Below w.heap.size w w' ∧ Terms true w.heap.size w'.heap.size w' u ts

set_option maxHeartbeats 800000 in
theorem const_impl (k : Int) (w : World) (k0 : -9223372036854775808 ≤ k) (k1 : k ≤ 9223372036854775807) :
    Calls Try.prog 24 #[.int .i64 k] w fun e w' => ∃ u, e = .returned (.agg #[u]) ∧ Below w.heap.size w w' ∧ Terms true w.heap.size w'.heap.size w' u (constOf k) := by
  by_cases h : k % 2147483647 = 0
  · rw [show constOf k = [] from if_pos h]
    have hb : (k % 2147483647 == 0) = true := by simp [h]
    clear h
    go_enter Try.func24, Try.ntmps24
    go_wp2_with (go_at_call 27; refine (fof_impl k _ k0 k1).mono ?_; rintro e w' ⟨rfl, rfl⟩)
    exact bodyPost_ret (v := .agg #[.slice none 0 0]) (by simp [results, Try.results24, go_sem]) rfl ⟨_, rfl, by (repeat (first | exact Below.refl _ _ | assumption | refine Below.drew ?_ | refine bdrewN ?_ _ | refine Below.alloc ?_ (by first | exact Nat.le_refl _ | (simp; done) | omega | (simp; omega)) _ | refine Below.setCell ?_ (by first | exact Nat.le_refl _ | (simp; done) | omega | (simp; omega)) _)), Terms.nil _ _ _ _⟩
  · rw [show constOf k = [(0, k % 2147483647)] from if_neg h]
    have hb : (k % 2147483647 == 0) = false := by simp [h]
    clear h
    go_enter Try.func24, Try.ntmps24
    go_wp2_with (go_at_call 27; refine (fof_impl k _ k0 k1).mono ?_; rintro e w' ⟨rfl, rfl⟩)
    refine bodyPost_ret (v := .agg #[.slice (some ⟨w.heap.size + 1, 0, none⟩) 1 1]) (by simp [results, Try.results24, go_sem]) rfl ⟨_, rfl, by (repeat (first | exact Below.refl _ _ | assumption | refine Below.drew ?_ | refine bdrewN ?_ _ | refine Below.alloc ?_ (by first | exact Nat.le_refl _ | (simp; done) | omega | (simp; omega)) _ | refine Below.setCell ?_ (by first | exact Nat.le_refl _ | (simp; done) | omega | (simp; omega)) _)), ?_⟩
    have h1 := fun o => Terms.one (w.alloc o) 0 (k % 2147483647) (by unfold Fits; omega) (by unfold Fits; omega)
    simp only [World.size_alloc] at h1
    exact (h1 _).mono (by omega) (by simp)

set_option maxHeartbeats 800000 in
theorem l2const_any (k : Int) (w : World) (k0 : 0 ≤ k) (k1 : k < 2147483647) :
    Calls Try.prog 80 #[.int .i64 k] w fun e w' => ∃ u, e = .returned (.agg #[u]) ∧ Below w.heap.size w w' ∧ Terms true w.heap.size w'.heap.size w' u (constOf k) := by
  by_cases h : k = 0
  · rw [show constOf k = [] from if_pos (by omega)]
    subst h
    go_enter Try.func80, Try.ntmps80
    go_wp2_with fail
    exact bodyPost_ret (v := .agg #[.slice none 0 0]) (by simp [results, Try.results80, go_sem]) rfl ⟨_, rfl, by (repeat (first | exact Below.refl _ _ | assumption | refine Below.drew ?_ | refine bdrewN ?_ _ | refine Below.alloc ?_ (by first | exact Nat.le_refl _ | (simp; done) | omega | (simp; omega)) _ | refine Below.setCell ?_ (by first | exact Nat.le_refl _ | (simp; done) | omega | (simp; omega)) _)), Terms.nil _ _ _ _⟩
  · rw [show constOf k = [(0, k)] from (if_neg (by omega)).trans (by rw [Int.emod_eq_of_lt k0 k1])]
    have hb : (k == 0) = false := by simp [h]
    clear h
    go_enter Try.func80, Try.ntmps80
    go_wp2_with fail
    refine bodyPost_ret (v := .agg #[.slice (some ⟨w.heap.size + 1, 0, none⟩) 1 1]) (by simp [results, Try.results80, go_sem]) rfl ⟨_, rfl, by (repeat (first | exact Below.refl _ _ | assumption | refine Below.drew ?_ | refine bdrewN ?_ _ | refine Below.alloc ?_ (by first | exact Nat.le_refl _ | (simp; done) | omega | (simp; omega)) _ | refine Below.setCell ?_ (by first | exact Nat.le_refl _ | (simp; done) | omega | (simp; omega)) _)), ?_⟩
    have h1 := fun o => Terms.one (w.alloc o) 0 k (by unfold Fits; omega) (by unfold Fits; omega)
    simp only [World.size_alloc] at h1
    exact (h1 _).mono (by omega) (by simp)

theorem constOf_mod (k : Int) : constOf (k % 2147483647) = constOf k := by unfold constOf; rw [Int.emod_emod]

set_option maxHeartbeats 800000 in
theorem const_spec (k : Int) (w : World) (k0 : -9223372036854775808 ≤ k) (k1 : k ≤ 9223372036854775807) :
    Calls Try.prog 40 #[.int .i64 k] w fun e w' => ∃ u, e = .returned (.agg #[u]) ∧ Below w.heap.size w w' ∧ Terms true w.heap.size w'.heap.size w' u (constOf k) := by
  have em := em_bd k
  go_enter Try.func40, Try.ntmps40
  go_wp2_with (go_at_call 81; refine (fof_spec k _ k0 k1).mono ?_; rintro e w' ⟨rfl, rfl⟩)
  refine (l2const_any (k % 2147483647) _ em.1 em.2).mono ?_; rintro e w2 ⟨u, rfl, f2, tq⟩
  rw [constOf_mod] at tq
  obtain ⟨a, ca, rfl, la, ba⟩ := tq.shape
  obtain ⟨hc, hf⟩ := bcell f2
  have hz := f2.size
  have be : Below w.heap.size w w2 := Below.trans (by (repeat (first | exact Below.refl _ _ | assumption | refine Below.drew ?_ | refine bdrewN ?_ _ | refine Below.alloc ?_ (by first | exact Nat.le_refl _ | (simp; done) | omega | (simp; omega)) _ | refine Below.setCell ?_ (by first | exact Nat.le_refl _ | (simp; done) | omega | (simp; omega)) _))) (f2.mono (by first | exact Nat.le_refl _ | (simp; done) | omega | (simp; omega)))
  go_wp2_with fail
  refine bodyPost_ret (v := .agg #[.slice a (constOf k).length ca]) (by simp [results, Try.results40, go_sem, hc]) rfl ⟨_, rfl, by (repeat (first | exact Below.refl _ _ | assumption | refine Below.drew ?_ | refine bdrewN ?_ _ | refine Below.alloc ?_ (by first | exact Nat.le_refl _ | (simp; done) | omega | (simp; omega)) _ | refine Below.setCell ?_ (by first | exact Nat.le_refl _ | (simp; done) | omega | (simp; omega)) _)), ?_⟩
  exact (tq.only (lo := w.heap.size) (hi := w.heap.size + 1) (by (repeat (first | exact Only.refl _ _ _ | assumption | refine Only.drew ?_ | refine odrewN ?_ _ | refine Only.alloc ?_ _ | refine Only.setCell ?_ (by first | exact Nat.le_refl _ | (simp; done) | omega | (simp; omega)) (by first | exact Nat.le_refl _ | (simp; done) | omega | (simp; omega)) _))) (by simp) (by simp)).mono (by simp <;> omega) (by simp)

set_option maxHeartbeats 800000 in
theorem varOf_impl (v : Int) (w : World) (v0 : -9223372036854775808 ≤ v) (v1 : v ≤ 9223372036854775807) :
    Calls Try.prog 44 #[.int .i64 v] w fun e w' => ∃ u, e = .returned (.tuple #[.agg #[u], .bool (varOk v)]) ∧ Below w.heap.size w w' ∧ Terms true w.heap.size w'.heap.size w' u (varOf v) := by
  by_cases h : 0 ≤ v ∧ v < 3000
  · rw [show varOf v = [(v, 1)] from if_pos h, show varOk v = true from decide_eq_true h]
    obtain ⟨h0, h1⟩ := h
    go_enter Try.func44, Try.ntmps44
    go_wp2_with fail
    refine bodyPost_ret (v := .tuple #[.agg #[.slice (some ⟨w.heap.size + 1, 0, none⟩) 1 1], .bool true]) (by simp [results, Try.results44, go_sem]) rfl ⟨_, rfl, by (repeat (first | exact Below.refl _ _ | assumption | refine Below.drew ?_ | refine bdrewN ?_ _ | refine Below.alloc ?_ (by first | exact Nat.le_refl _ | (simp; done) | omega | (simp; omega)) _ | refine Below.setCell ?_ (by first | exact Nat.le_refl _ | (simp; done) | omega | (simp; omega)) _)), ?_⟩
    have h1 := fun o => Terms.one (w.alloc o) v 1 (by unfold Fits; omega) (by unfold Fits; omega)
    simp only [World.size_alloc] at h1
    exact (h1 _).mono (by omega) (by simp)
  · rw [show varOf v = [] from if_neg h, show varOk v = false from decide_eq_false h]
    by_cases h0 : v < 0
    · clear h
      go_enter Try.func44, Try.ntmps44
      go_wp2_with fail
      exact bodyPost_ret (v := .tuple #[.agg #[.slice none 0 0], .bool false]) (by simp [results, Try.results44, go_sem]) rfl ⟨_, rfl, by (repeat (first | exact Below.refl _ _ | assumption | refine Below.drew ?_ | refine bdrewN ?_ _ | refine Below.alloc ?_ (by first | exact Nat.le_refl _ | (simp; done) | omega | (simp; omega)) _ | refine Below.setCell ?_ (by first | exact Nat.le_refl _ | (simp; done) | omega | (simp; omega)) _)), Terms.nil _ _ _ _⟩
    · have h1 : 3000 ≤ v := by omega
      clear h
      go_enter Try.func44, Try.ntmps44
      go_wp2_with fail
      exact bodyPost_ret (v := .tuple #[.agg #[.slice none 0 0], .bool false]) (by simp [results, Try.results44, go_sem]) rfl ⟨_, rfl, by (repeat (first | exact Below.refl _ _ | assumption | refine Below.drew ?_ | refine bdrewN ?_ _ | refine Below.alloc ?_ (by first | exact Nat.le_refl _ | (simp; done) | omega | (simp; omega)) _ | refine Below.setCell ?_ (by first | exact Nat.le_refl _ | (simp; done) | omega | (simp; omega)) _)), Terms.nil _ _ _ _⟩

set_option maxHeartbeats 800000 in
theorem l2var_any (v : Int) (w : World) (v0 : -9223372036854775808 ≤ v) (v1 : v ≤ 9223372036854775807) :
    Calls Try.prog 84 #[.int .i64 v] w fun e w' => ∃ u, e = .returned (.agg #[u]) ∧ Below w.heap.size w w' ∧ Terms true w.heap.size w'.heap.size w' u [(v, 1)] := by
  go_enter Try.func84, Try.ntmps84
  go_wp2_with fail
  refine bodyPost_ret (v := .agg #[.slice (some ⟨w.heap.size + 1, 0, none⟩) 1 1]) (by simp [results, Try.results84, go_sem]) rfl ⟨_, rfl, by (repeat (first | exact Below.refl _ _ | assumption | refine Below.drew ?_ | refine bdrewN ?_ _ | refine Below.alloc ?_ (by first | exact Nat.le_refl _ | (simp; done) | omega | (simp; omega)) _ | refine Below.setCell ?_ (by first | exact Nat.le_refl _ | (simp; done) | omega | (simp; omega)) _)), ?_⟩
  have h1 := fun o => Terms.one (w.alloc o) v 1 (by unfold Fits; omega) (by unfold Fits; omega)
  simp only [World.size_alloc] at h1
  exact (h1 _).mono (by omega) (by simp)

set_option maxHeartbeats 800000 in
theorem v_any (v : Int) (w : World) (v0 : -9223372036854775808 ≤ v) (v1 : v ≤ 9223372036854775807) :
    Calls Try.prog 71 #[.int .i64 v] w fun e w' => ∃ u, e = .returned (.agg #[u]) ∧ Below w.heap.size w w' ∧ Terms true w.heap.size w'.heap.size w' u [(v, 1)] := by
  go_enter Try.func71, Try.ntmps71
  go_wp2_with fail
  refine bodyPost_ret (v := .agg #[.slice (some ⟨w.heap.size + 1, 0, none⟩) 1 1]) (by simp [results, Try.results71, go_sem]) rfl ⟨_, rfl, by (repeat (first | exact Below.refl _ _ | assumption | refine Below.drew ?_ | refine bdrewN ?_ _ | refine Below.alloc ?_ (by first | exact Nat.le_refl _ | (simp; done) | omega | (simp; omega)) _ | refine Below.setCell ?_ (by first | exact Nat.le_refl _ | (simp; done) | omega | (simp; omega)) _)), ?_⟩
  have h1 := fun o => Terms.one (w.alloc o) v 1 (by unfold Fits; omega) (by unfold Fits; omega)
  simp only [World.size_alloc] at h1
  exact (h1 _).mono (by omega) (by simp)

set_option maxHeartbeats 800000 in
theorem varOf_spec (v : Int) (w : World) (v0 : -9223372036854775808 ≤ v) (v1 : v ≤ 9223372036854775807) :
    Calls Try.prog 43 #[.int .i64 v] w fun e w' => ∃ u, e = .returned (.tuple #[.agg #[u], .bool (varOk v)]) ∧ Below w.heap.size w w' ∧ Terms true w.heap.size w'.heap.size w' u (varOf v) := by
  by_cases h : 0 ≤ v ∧ v < 3000
  · rw [show varOf v = [(v, 1)] from if_pos h, show varOk v = true from decide_eq_true h]
    obtain ⟨h0, h1⟩ := h
    go_enter Try.func43, Try.ntmps43
    go_wp2_with fail
    refine (l2var_any v _ v0 v1).mono ?_; rintro e w2 ⟨u, rfl, f2, tq⟩
    obtain ⟨a, ca, rfl, la, ba⟩ := tq.shape
    obtain ⟨hc, hf⟩ := bcell f2
    have hz := f2.size
    have be : Below w.heap.size w w2 := Below.trans (by (repeat (first | exact Below.refl _ _ | assumption | refine Below.drew ?_ | refine bdrewN ?_ _ | refine Below.alloc ?_ (by first | exact Nat.le_refl _ | (simp; done) | omega | (simp; omega)) _ | refine Below.setCell ?_ (by first | exact Nat.le_refl _ | (simp; done) | omega | (simp; omega)) _))) (f2.mono (by first | exact Nat.le_refl _ | (simp; done) | omega | (simp; omega)))
    go_wp2_with fail
    refine bodyPost_ret (v := .tuple #[.agg #[.slice a 1 ca], .bool true]) (by simp [results, Try.results43, go_sem, hc]) rfl ⟨_, rfl, by (repeat (first | exact Below.refl _ _ | assumption | refine Below.drew ?_ | refine bdrewN ?_ _ | refine Below.alloc ?_ (by first | exact Nat.le_refl _ | (simp; done) | omega | (simp; omega)) _ | refine Below.setCell ?_ (by first | exact Nat.le_refl _ | (simp; done) | omega | (simp; omega)) _)), ?_⟩
    exact (tq.only (lo := w.heap.size) (hi := w.heap.size + 1) (by (repeat (first | exact Only.refl _ _ _ | assumption | refine Only.drew ?_ | refine odrewN ?_ _ | refine Only.alloc ?_ _ | refine Only.setCell ?_ (by first | exact Nat.le_refl _ | (simp; done) | omega | (simp; omega)) (by first | exact Nat.le_refl _ | (simp; done) | omega | (simp; omega)) _))) (by simp) (by simp)).mono (by simp <;> omega) (by simp)
  · rw [show varOf v = [] from if_neg h, show varOk v = false from decide_eq_false h]
    by_cases h0 : v < 0
    · clear h
      go_enter Try.func43, Try.ntmps43
      go_wp2_with fail
      exact bodyPost_ret (v := .tuple #[.agg #[.slice none 0 0], .bool false]) (by simp [results, Try.results43, go_sem]) rfl ⟨_, rfl, by (repeat (first | exact Below.refl _ _ | assumption | refine Below.drew ?_ | refine bdrewN ?_ _ | refine Below.alloc ?_ (by first | exact Nat.le_refl _ | (simp; done) | omega | (simp; omega)) _ | refine Below.setCell ?_ (by first | exact Nat.le_refl _ | (simp; done) | omega | (simp; omega)) _)), Terms.nil _ _ _ _⟩
    · have h1 : 3000 ≤ v := by omega
      clear h
      go_enter Try.func43, Try.ntmps43
      go_wp2_with fail
      exact bodyPost_ret (v := .tuple #[.agg #[.slice none 0 0], .bool false]) (by simp [results, Try.results43, go_sem]) rfl ⟨_, rfl, by (repeat (first | exact Below.refl _ _ | assumption | refine Below.drew ?_ | refine bdrewN ?_ _ | refine Below.alloc ?_ (by first | exact Nat.le_refl _ | (simp; done) | omega | (simp; omega)) _ | refine Below.setCell ?_ (by first | exact Nat.le_refl _ | (simp; done) | omega | (simp; omega)) _)), Terms.nil _ _ _ _⟩
end Go.Proofs.Ytpobbdibkhledaa.L
