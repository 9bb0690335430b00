/- Sums, differences, multiples of linear combinations: the model's functions. -/
import Derived.Test.YteekpdlkdpkegaaSpecAdd
namespace Go.Proofs.Yteekpdlkdpkegaa.L
open Go.RowKit Go.Shelf Go.Proofs.Yteekpdlkdpkegaa.S
set_option linter.unusedVariables false
set_option linter.unusedSimpArgs false


set_option maxRecDepth 100000 in
set_option maxHeartbeats 1600000 in
theorem l2sub_any (o1 l1 h1 va xs) (o2 l2 h2 vb ys) (w : World) (t1 : Terms o1 l1 h1 w va xs) (hw1 : h1 ≤ w.heap.size) (t2 : Terms o2 l2 h2 w vb ys) (hw2 : h2 ≤ w.heap.size) (hx : linOk xs = true) (hy : linOk ys = true) :
    Calls Try.prog 126 #[.agg #[va], .agg #[vb]] w fun e w' => ∃ u, e = .returned (.agg #[u]) ∧ Below w.heap.size w w' ∧ Terms true w.heap.size w'.heap.size w' u (mrg 2147483646 xs ys) := by
  obtain ⟨a, ka, rfl, la, ba⟩ := t1.shape
  obtain ⟨b, kb, rfl, lb, bb⟩ := t2.shape
  go_enter Try.func126, Try.ntmps126
  go_wp2_with fail
  refine name_call fun w1 hw1' => ?_
  have b1 : Below w.heap.size w w1 := by rw [hw1']; (repeat (first | with_reducible exact Below.refl _ _ | with_reducible assumption | with_reducible refine Below.drew ?_ | with_reducible refine bdrewN ?_ _ | ((with_reducible refine balloc ?_ ?_ _); (focus (first | with_reducible exact Nat.le_refl _ | (simp; done) | omega | (simp; omega) | exact Nat.le_refl _))) | ((with_reducible refine bset ?_ ?_ _); (focus (first | with_reducible exact Nat.le_refl _ | (simp; done) | omega | (simp; omega) | exact Nat.le_refl _)))))
  have z1 : w.heap.size + 3 ≤ w1.heap.size := by rw [hw1']; simp
  have cR1 : w1.cell? ⟨w.heap.size + 1 + 1, 0, none⟩ = some (.slice none 0 0) := by rw [hw1']; go_simp
  have fR1 : w1.frozen? ⟨w.heap.size + 1 + 1, 0, none⟩ = false := by rw [hw1']; go_simp
  have t1' := t1.keep b1 hw1
  have t2' := t2.keep b1 hw2
  clear hw1'
  refine (l2add_any _ _ _ _ xs _ _ _ _ ys 2147483646 w1 t1' (by omega) t2' (by omega) (by omega) (by omega) hx hy).mono ?_; rintro e w2 ⟨u, rfl, f2, tq⟩
  obtain ⟨g, kg, rfl, lg, bg⟩ := tq.shape
  have b2 := b1.trans (f2.mono (by omega))
  have z2 := f2.size
  have cR2 := cell_keep f2 cR1
  have fR2 := (f2.frozen (p := ⟨w.heap.size + 1 + 1, 0, none⟩) (by simp; omega)).trans fR1
  go_wp2_with fail
  exact bodyPost_ret (v := .agg #[.slice g (mrg 2147483646 xs ys).length kg]) (by simp [results, Try.results126, go_sem, cR2]) rfl ⟨_, rfl, by (repeat (first | with_reducible exact Below.refl _ _ | with_reducible assumption | with_reducible refine Below.drew ?_ | with_reducible refine bdrewN ?_ _ | ((with_reducible refine balloc ?_ ?_ _); (focus (first | with_reducible exact Nat.le_refl _ | (simp; done) | omega | (simp; omega) | exact Nat.le_refl _))) | ((with_reducible refine bset ?_ ?_ _); (focus (first | with_reducible exact Nat.le_refl _ | (simp; done) | omega | (simp; omega) | exact Nat.le_refl _))))), tq.stored (by omega) (by omega)⟩

set_option maxRecDepth 100000 in
set_option maxHeartbeats 1600000 in
theorem linAdd_spec (o1 l1 h1 va xs) (o2 l2 h2 vb ys) (w : World) (t1 : Terms o1 l1 h1 w va xs) (hw1 : h1 ≤ w.heap.size) (t2 : Terms o2 l2 h2 w vb ys) (hw2 : h2 ≤ w.heap.size) :
    Calls Try.prog 98 #[.agg #[va], .agg #[vb]] w fun e w' => ∃ u, e = .returned (.tuple #[.agg #[u], .bool (lok xs ys)]) ∧ Below w.heap.size w w' ∧ Terms true w.heap.size w'.heap.size w' u (lcomb 1 xs ys) := by
  obtain ⟨a, ka, rfl, la, ba⟩ := t1.shape
  obtain ⟨b, kb, rfl, lb, bb⟩ := t2.shape
  rcases lok_cases xs ys with ⟨hx, hy⟩ | (hx | ⟨hx, hy⟩)
  · rw [(lcomb_yes hx hy).1, (lcomb_yes (k := 1) hx hy).2]
    go_enter Try.func98, Try.ntmps98
    go_wp2_with fail
    refine name_call fun w1 hw1' => ?_
    have b1 : Below w.heap.size w w1 := by rw [hw1']; (repeat (first | with_reducible exact Below.refl _ _ | with_reducible assumption | with_reducible refine Below.drew ?_ | with_reducible refine bdrewN ?_ _ | ((with_reducible refine balloc ?_ ?_ _); (focus (first | with_reducible exact Nat.le_refl _ | (simp; done) | omega | (simp; omega) | exact Nat.le_refl _))) | ((with_reducible refine bset ?_ ?_ _); (focus (first | with_reducible exact Nat.le_refl _ | (simp; done) | omega | (simp; omega) | exact Nat.le_refl _)))))
    have z1 : w.heap.size + 3 ≤ w1.heap.size := by rw [hw1']; simp
    have cA1 : w1.cell? ⟨w.heap.size, 0, none⟩ = some (.slice a xs.length ka) := by rw [hw1']; go_simp
    have cB1 : w1.cell? ⟨w.heap.size + 1, 0, none⟩ = some (.slice b ys.length kb) := by rw [hw1']; go_simp
    have cR1 : w1.cell? ⟨w.heap.size + 1 + 1, 0, none⟩ = some (.slice none 0 0) := by rw [hw1']; go_simp
    have fR1 : w1.frozen? ⟨w.heap.size + 1 + 1, 0, none⟩ = false := by rw [hw1']; go_simp
    have t1' := t1.keep b1 hw1
    have t2' := t2.keep b1 hw2
    clear hw1'
    refine (linOk_spec_yes o1 l1 h1 _ xs w1 t1' (by omega) hx).mono ?_; rintro e w2 ⟨rfl, f2⟩
    have b2 := b1.trans (f2.mono (by omega))
    have z2 := f2.size
    have cA2 := cell_keep f2 cA1
    have cB2 := cell_keep f2 cB1
    have cR2 := cell_keep f2 cR1
    have fR2 := (f2.frozen (p := ⟨w.heap.size + 1 + 1, 0, none⟩) (by simp; omega)).trans fR1
    clear cA1 cB1 cR1 fR1
    go_wp2_with fail
    refine (linOk_spec_yes o2 l2 h2 _ ys w2 (t2'.keep f2 (by omega)) (by omega) hy).mono ?_; rintro e w3 ⟨rfl, f3⟩
    have b3 := b2.trans (f3.mono (by omega))
    have z3 := f3.size
    have cA3 := cell_keep f3 cA2
    have cB3 := cell_keep f3 cB2
    have cR3 := cell_keep f3 cR2
    have fR3 := (f3.frozen (p := ⟨w.heap.size + 1 + 1, 0, none⟩) (by simp; omega)).trans fR2
    have t1c := t1.keep b3 hw1
    have t2c := t2.keep b3 hw2
    clear cA2 cB2 cR2 fR2 t1' t2'
    go_wp2_with fail
    refine (l2add_any _ _ _ _ xs _ _ _ _ ys 1 w3 t1c (by omega) t2c (by omega) (by omega) (by omega) hx hy).mono ?_; rintro e w4 ⟨u, rfl, f4, tq⟩
    obtain ⟨g, kg, rfl, lg, bg⟩ := tq.shape
    have b4 := b3.trans (f4.mono (by omega))
    have z4 := f4.size
    have cR4 := cell_keep f4 cR3
    have fR4 := (f4.frozen (p := ⟨w.heap.size + 1 + 1, 0, none⟩) (by simp; omega)).trans fR3
    clear cA3 cB3 cR3 fR3
    go_wp2_with fail
    exact bodyPost_ret (v := .tuple #[.agg #[.slice g (mrg 1 xs ys).length kg], .bool true]) (by simp [results, Try.results98, go_sem, cR4]) rfl ⟨_, rfl, by (repeat (first | with_reducible exact Below.refl _ _ | with_reducible assumption | with_reducible refine Below.drew ?_ | with_reducible refine bdrewN ?_ _ | ((with_reducible refine balloc ?_ ?_ _); (focus (first | with_reducible exact Nat.le_refl _ | (simp; done) | omega | (simp; omega) | exact Nat.le_refl _))) | ((with_reducible refine bset ?_ ?_ _); (focus (first | with_reducible exact Nat.le_refl _ | (simp; done) | omega | (simp; omega) | exact Nat.le_refl _))))), tq.stored (by omega) (by omega)⟩
  · rw [(lcomb_no (.inl hx)).1, (lcomb_no (k := 1) (.inl hx)).2]
    go_enter Try.func98, Try.ntmps98
    go_wp2_with fail
    refine name_call fun w1 hw1' => ?_
    have b1 : Below w.heap.size w w1 := by rw [hw1']; (repeat (first | with_reducible exact Below.refl _ _ | with_reducible assumption | with_reducible refine Below.drew ?_ | with_reducible refine bdrewN ?_ _ | ((with_reducible refine balloc ?_ ?_ _); (focus (first | with_reducible exact Nat.le_refl _ | (simp; done) | omega | (simp; omega) | exact Nat.le_refl _))) | ((with_reducible refine bset ?_ ?_ _); (focus (first | with_reducible exact Nat.le_refl _ | (simp; done) | omega | (simp; omega) | exact Nat.le_refl _)))))
    have z1 : w.heap.size + 3 ≤ w1.heap.size := by rw [hw1']; simp
    have cA1 : w1.cell? ⟨w.heap.size, 0, none⟩ = some (.slice a xs.length ka) := by rw [hw1']; go_simp
    have cB1 : w1.cell? ⟨w.heap.size + 1, 0, none⟩ = some (.slice b ys.length kb) := by rw [hw1']; go_simp
    have cR1 : w1.cell? ⟨w.heap.size + 1 + 1, 0, none⟩ = some (.slice none 0 0) := by rw [hw1']; go_simp
    have fR1 : w1.frozen? ⟨w.heap.size + 1 + 1, 0, none⟩ = false := by rw [hw1']; go_simp
    have t1' := t1.keep b1 hw1
    have t2' := t2.keep b1 hw2
    clear hw1'
    refine (linOk_spec_no o1 l1 h1 _ xs w1 t1' (by omega) hx).mono ?_; rintro e w2 ⟨rfl, f2⟩
    have b2 := b1.trans (f2.mono (by omega))
    have cR2 := cell_keep f2 cR1
    have fR2 := (f2.frozen (p := ⟨w.heap.size + 1 + 1, 0, none⟩) (by simp; omega)).trans fR1
    clear cA1 cB1 cR1 fR1
    go_wp2_with fail
    exact bodyPost_ret (v := .tuple #[.agg #[.slice none 0 0], .bool false]) (by simp [results, Try.results98, go_sem, cR2]) rfl ⟨_, rfl, by (repeat (first | with_reducible exact Below.refl _ _ | with_reducible assumption | with_reducible refine Below.drew ?_ | with_reducible refine bdrewN ?_ _ | ((with_reducible refine balloc ?_ ?_ _); (focus (first | with_reducible exact Nat.le_refl _ | (simp; done) | omega | (simp; omega) | exact Nat.le_refl _))) | ((with_reducible refine bset ?_ ?_ _); (focus (first | with_reducible exact Nat.le_refl _ | (simp; done) | omega | (simp; omega) | exact Nat.le_refl _))))), Terms.nil _ _ _ _⟩
  · rw [(lcomb_no (.inr ⟨hx, hy⟩)).1, (lcomb_no (k := 1) (.inr ⟨hx, hy⟩)).2]
    go_enter Try.func98, Try.ntmps98
    go_wp2_with fail
    refine name_call fun w1 hw1' => ?_
    have b1 : Below w.heap.size w w1 := by rw [hw1']; (repeat (first | with_reducible exact Below.refl _ _ | with_reducible assumption | with_reducible refine Below.drew ?_ | with_reducible refine bdrewN ?_ _ | ((with_reducible refine balloc ?_ ?_ _); (focus (first | with_reducible exact Nat.le_refl _ | (simp; done) | omega | (simp; omega) | exact Nat.le_refl _))) | ((with_reducible refine bset ?_ ?_ _); (focus (first | with_reducible exact Nat.le_refl _ | (simp; done) | omega | (simp; omega) | exact Nat.le_refl _)))))
    have z1 : w.heap.size + 3 ≤ w1.heap.size := by rw [hw1']; simp
    have cA1 : w1.cell? ⟨w.heap.size, 0, none⟩ = some (.slice a xs.length ka) := by rw [hw1']; go_simp
    have cB1 : w1.cell? ⟨w.heap.size + 1, 0, none⟩ = some (.slice b ys.length kb) := by rw [hw1']; go_simp
    have cR1 : w1.cell? ⟨w.heap.size + 1 + 1, 0, none⟩ = some (.slice none 0 0) := by rw [hw1']; go_simp
    have fR1 : w1.frozen? ⟨w.heap.size + 1 + 1, 0, none⟩ = false := by rw [hw1']; go_simp
    have t1' := t1.keep b1 hw1
    have t2' := t2.keep b1 hw2
    clear hw1'
    refine (linOk_spec_yes o1 l1 h1 _ xs w1 t1' (by omega) hx).mono ?_; rintro e w2 ⟨rfl, f2⟩
    have b2 := b1.trans (f2.mono (by omega))
    have z2 := f2.size
    have cB2 := cell_keep f2 cB1
    have cR2 := cell_keep f2 cR1
    have fR2 := (f2.frozen (p := ⟨w.heap.size + 1 + 1, 0, none⟩) (by simp; omega)).trans fR1
    clear cA1 cB1 cR1 fR1
    go_wp2_with fail
    refine (linOk_spec_no o2 l2 h2 _ ys w2 (t2'.keep f2 (by omega)) (by omega) hy).mono ?_; rintro e w3 ⟨rfl, f3⟩
    have b3 := b2.trans (f3.mono (by omega))
    have cR3 := cell_keep f3 cR2
    have fR3 := (f3.frozen (p := ⟨w.heap.size + 1 + 1, 0, none⟩) (by simp; omega)).trans fR2
    clear cB2 cR2 fR2
    go_wp2_with fail
    exact bodyPost_ret (v := .tuple #[.agg #[.slice none 0 0], .bool false]) (by simp [results, Try.results98, go_sem, cR3]) rfl ⟨_, rfl, by (repeat (first | with_reducible exact Below.refl _ _ | with_reducible assumption | with_reducible refine Below.drew ?_ | with_reducible refine bdrewN ?_ _ | ((with_reducible refine balloc ?_ ?_ _); (focus (first | with_reducible exact Nat.le_refl _ | (simp; done) | omega | (simp; omega) | exact Nat.le_refl _))) | ((with_reducible refine bset ?_ ?_ _); (focus (first | with_reducible exact Nat.le_refl _ | (simp; done) | omega | (simp; omega) | exact Nat.le_refl _))))), Terms.nil _ _ _ _⟩

end Go.Proofs.Yteekpdlkdpkegaa.L
