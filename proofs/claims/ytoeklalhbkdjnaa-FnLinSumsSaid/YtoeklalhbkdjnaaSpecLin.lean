/- Sums, differences, multiples of linear combinations: the model's functions. -/
import Derived.Test.YtoeklalhbkdjnaaB17
namespace Go.Proofs.Ytoeklalhbkdjnaa.L
open Go.RowKit Go.Shelf Go.Proofs.Ytoeklalhbkdjnaa.S
set_option linter.unusedVariables false
set_option maxRecDepth 100000 in
set_option maxHeartbeats 1600000 in
theorem l2times_any (o2 l2 h2 vb ys) (k : Int) (w : World) (t2 : Terms o2 l2 h2 w vb ys) (hw2 : h2 ≤ w.heap.size) (k0 : 0 ≤ k) (k1 : k < 2147483647) (hy : linOk ys = true) :
    Calls Try.prog 47 #[.agg #[vb], .int .i64 k] w fun e w' => ∃ u, e = .returned (.agg #[u]) ∧ Below w.heap.size w w' ∧ Terms true w.heap.size w'.heap.size w' u (mrg k [] ys) := by
  obtain ⟨b, kb, rfl, lb, bb⟩ := t2.shape
  go_enter Try.func47, Try.ntmps47
  go_wp2_with fail
  refine name_call fun w1 hw1' => ?_
  have b1 : Below w.heap.size w w1 := by rw [hw1']; (repeat (with_reducible first | exact bR _ _ | assumption | refine bD ?_ | refine bN ?_ _ | refine bA ?_ _ | refine bS ?_ _))
  have z1 : w.heap.size + 2 ≤ w1.heap.size := by rw [hw1']; simp
  have cR1 : w1.cell? ⟨w.heap.size + 1, 0, none⟩ = some (.slice none 0 0) := by rw [hw1']; go_simp
  have fR1 : w1.frozen? ⟨w.heap.size + 1, 0, none⟩ = false := by rw [hw1']; go_simp
  have t2' := t2.keep b1 hw2
  clear hw1'
  refine (l2add_any true 0 0 _ [] _ _ _ _ ys k w1 (Terms.nil _ _ _ _) (Nat.zero_le _) t2' (by omega) k0 k1 rfl hy).mono ?_; rintro e w2 ⟨u, rfl, f2, tq⟩
  obtain ⟨g, kg, rfl, lg, bg⟩ := tq.shape
  have b2 := b1.trans (f2.mono (by omega))
  have z2 := f2.size
  have cR2 := cell_keep f2 cR1
  have fR2 := (f2.frozen (p := ⟨w.heap.size + 1, 0, none⟩) (by simp; omega)).trans fR1
  go_wp2_with fail
  exact bodyPost_ret (v := .agg #[.slice g (mrg k [] ys).length kg]) (by simp [results, Try.results47, go_sem, cR2]) rfl ⟨_, rfl, by (repeat (with_reducible first | exact bR _ _ | assumption | refine bD ?_ | refine bN ?_ _ | refine bA ?_ _ | refine bS ?_ _)), tq.stored (by omega) (by omega)⟩

end Go.Proofs.Ytoeklalhbkdjnaa.L
