/- Sums, differences and multiples of linear combinations: the program's functions. -/
import Derived.Test.YteekpdlkdpkegaaColl
namespace Go.Proofs.Yteekpdlkdpkegaa.L
open Go.RowKit Go.Shelf Go.Proofs.Yteekpdlkdpkegaa.S
set_option linter.unusedVariables false
set_option linter.unusedSimpArgs false

set_option maxRecDepth 100000 in
set_option maxHeartbeats 1600000 in
theorem combine_no (o1 o2 : Bool) (l1 h1 l2 h2 : Nat) (va vb : Value) (xs ys : List T) (k : Int) (w : World) (t1 : Terms o1 l1 h1 w va xs) (hw1 : h1 ≤ w.heap.size) (t2 : Terms o2 l2 h2 w vb ys) (hw2 : h2 ≤ w.heap.size) (hxy : linOk xs = false ∨ (linOk xs = true ∧ linOk ys = false)) :
    Calls Try.prog 96 #[.agg #[va], .agg #[vb], .int .i64 k] w fun e w' => ∃ u, e = .returned (.tuple #[.agg #[u], .bool false]) ∧ Below w.heap.size w w' ∧ Terms true w.heap.size w'.heap.size w' u [] := by
  obtain ⟨a, ka, rfl, la, ba⟩ := t1.shape
  obtain ⟨b, kb, rfl, lb, bb⟩ := t2.shape
  refine callsIn_wide.1 (?_ : CallsIn Fence.wide 5 _ _ _ _ _)
  refine callsIn_of_wp_marks Try.func96 rfl trivial ?_ rfl
  simp only [Try.ntmps96, List.size_toArray, List.length_cons, List.length_nil, Nat.reduceAdd, Nat.reduceSub, Array.replicate_succ, Array.replicate_zero, List.push_toArray, List.append_toArray, List.nil_append, List.cons_append]
  refine wpIn_wide.2 ?_
  go_wp2_with fail
  refine name_call fun w1 hw1' => ?_
  have b1 : Below w.heap.size w w1 := by rw [hw1']; (repeat (first | with_reducible exact Below.refl _ _ | with_reducible assumption | with_reducible refine Below.drew ?_ | with_reducible refine bdrewN ?_ _ | ((with_reducible refine balloc ?_ ?_ _); (focus (first | with_reducible exact Nat.le_refl _ | (simp; done) | omega | (simp; omega) | exact Nat.le_refl _))) | ((with_reducible refine bset ?_ ?_ _); (focus (first | with_reducible exact Nat.le_refl _ | (simp; done) | omega | (simp; omega) | exact Nat.le_refl _)))))
  have z1 : w.heap.size + 3 ≤ w1.heap.size := by rw [hw1']; simp
  have cB1 : w1.cell? ⟨w.heap.size + 1, 0, none⟩ = some (.slice b ys.length kb) := by rw [hw1']; go_simp
  have cR1 : w1.cell? ⟨w.heap.size + 1 + 1, 0, none⟩ = some (.slice none 0 0) := by rw [hw1']; go_simp
  have fR1 : w1.frozen? ⟨w.heap.size + 1 + 1, 0, none⟩ = false := by rw [hw1']; go_simp
  clear hw1'
  rcases hxy with hx | ⟨hx, hy⟩
  · refine (linOk_impl_no o1 l1 h1 _ xs w1 (t1.keep b1 hw1) (by omega) hx).mono ?_; rintro e w2 ⟨rfl, f2⟩
    have b2 := b1.trans (f2.mono (by omega))
    have cR2 := cell_keep f2 cR1
    have fR2 := (f2.frozen (p := ⟨w.heap.size + 1 + 1, 0, none⟩) (by simp; omega)).trans fR1
    clear cB1 cR1 fR1
    go_wp2_with fail
    exact ⟨.tuple #[.agg #[.slice none 0 0], .bool false], by simp [results, Try.results96, go_sem, cR2], _, rfl, by (repeat (first | with_reducible exact Below.refl _ _ | with_reducible assumption | with_reducible refine Below.drew ?_ | with_reducible refine bdrewN ?_ _ | ((with_reducible refine balloc ?_ ?_ _); (focus (first | with_reducible exact Nat.le_refl _ | (simp; done) | omega | (simp; omega) | exact Nat.le_refl _))) | ((with_reducible refine bset ?_ ?_ _); (focus (first | with_reducible exact Nat.le_refl _ | (simp; done) | omega | (simp; omega) | exact Nat.le_refl _))))), Terms.nil _ _ _ _⟩
  · refine (linOk_impl_yes o1 l1 h1 _ xs w1 (t1.keep b1 hw1) (by omega) hx).mono ?_; rintro e w2 ⟨rfl, f2⟩
    have b2 := b1.trans (f2.mono (by omega))
    have z2 := f2.size
    have cR2 := cell_keep f2 cR1
    have fR2 := (f2.frozen (p := ⟨w.heap.size + 1 + 1, 0, none⟩) (by simp; omega)).trans fR1
    have cB2 := cell_keep f2 cB1
    clear cB1 cR1 fR1
    go_wp2_with fail
    refine (linOk_impl_no o2 l2 h2 _ ys w2 (t2.keep b2 hw2) (by omega) hy).mono ?_; rintro e w3 ⟨rfl, f3⟩
    have b3 := b2.trans (f3.mono (by omega))
    have cR3 := cell_keep f3 cR2
    have fR3 := (f3.frozen (p := ⟨w.heap.size + 1 + 1, 0, none⟩) (by simp; omega)).trans fR2
    clear cB2 cR2 fR2
    go_wp2_with fail
    exact ⟨.tuple #[.agg #[.slice none 0 0], .bool false], by simp [results, Try.results96, go_sem, cR3], _, rfl, by (repeat (first | with_reducible exact Below.refl _ _ | with_reducible assumption | with_reducible refine Below.drew ?_ | with_reducible refine bdrewN ?_ _ | ((with_reducible refine balloc ?_ ?_ _); (focus (first | with_reducible exact Nat.le_refl _ | (simp; done) | omega | (simp; omega) | exact Nat.le_refl _))) | ((with_reducible refine bset ?_ ?_ _); (focus (first | with_reducible exact Nat.le_refl _ | (simp; done) | omega | (simp; omega) | exact Nat.le_refl _))))), Terms.nil _ _ _ _⟩

/-- a plus k times b, and whether the two are valid. -/
def lok (xs ys : List T) : Bool := linOk xs && linOk ys
theorem lok_cases (xs ys : List T) : (linOk xs = true ∧ linOk ys = true) ∨ (linOk xs = false ∨ (linOk xs = true ∧ linOk ys = false)) := by
  cases linOk xs <;> cases linOk ys <;> simp
theorem lcomb_yes {k : Int} {xs ys : List T} (hx : linOk xs = true) (hy : linOk ys = true) : lcomb k xs ys = mrg k xs ys ∧ lok xs ys = true := by unfold lcomb lok; simp [hx, hy]
theorem lcomb_no {k : Int} {xs ys : List T} (h : linOk xs = false ∨ (linOk xs = true ∧ linOk ys = false)) : lcomb k xs ys = [] ∧ lok xs ys = false := by
  unfold lcomb lok
  rcases h with h | ⟨_, h⟩ <;> simp [h]
theorem lcomb_len (k : Int) (xs ys : List T) : (lcomb k xs ys).length ≤ 6000 := by
  unfold lcomb
  split
  · rename_i h
    simp only [Bool.and_eq_true] at h
    have := linOk_length h.1
    have := linOk_length h.2
    have := mrg_length k xs ys
    omega
  · simp

theorem combine_impl (o1 l1 h1 va xs) (o2 l2 h2 vb ys) (k : Int) (w : World) (t1 : Terms o1 l1 h1 w va xs) (hw1 : h1 ≤ w.heap.size) (t2 : Terms o2 l2 h2 w vb ys) (hw2 : h2 ≤ w.heap.size) (k0 : 0 ≤ k) (k1 : k < 2147483647) :
    Calls Try.prog 96 #[.agg #[va], .agg #[vb], .int .i64 k] w fun e w' => ∃ u, e = .returned (.tuple #[.agg #[u], .bool (lok xs ys)]) ∧ Below w.heap.size w w' ∧ Terms true w.heap.size w'.heap.size w' u (lcomb k xs ys) := by
  rcases lok_cases xs ys with ⟨hx, hy⟩ | h
  · rw [(lcomb_yes hx hy).1, (lcomb_yes (k := k) hx hy).2]
    exact combine_yes o1 o2 l1 h1 l2 h2 va vb xs ys k w t1 hw1 t2 hw2 k0 k1 hx hy
  · rw [(lcomb_no h).1, (lcomb_no (k := k) h).2]
    exact combine_no o1 o2 l1 h1 l2 h2 va vb xs ys k w t1 hw1 t2 hw2 h

/-- The result is laid into its cell. -/
theorem Terms.stored {own : Bool} {lo lo' R : Nat} {w : World} {v x : Value} {ts : List T} (t : Terms own lo w.heap.size w v ts) (hR : R < lo) (h : lo' ≤ lo) : Terms own lo' (w.setCell ⟨R, 0, none⟩ x).heap.size (w.setCell ⟨R, 0, none⟩ x) v ts := by
  have := (t.only (lo := R) (hi := R + 1) (Only.setCell (p := ⟨R, 0, none⟩) (Only.refl _ _ w) (Nat.le_refl _) (Nat.lt_succ_self _) x) (.inr hR) (Nat.le_refl _)).mono h (Nat.le_refl _)
  rw [World.size_setCell]; exact this
theorem cell_set1 {W : World} {g b o : Nat} {u x : Value} (h : W.cell? ⟨b, o, none⟩ = some x) (hne : b ≠ g) : (W.setCell ⟨g, 0, none⟩ u).cell? ⟨b, o, none⟩ = some x := by
  rw [World.cell?_setCell_other _ _ _ _ (by simp <;> omega)]; exact h

theorem elemOf_neg1 (w : World) : Calls Try.prog 97 #[.int .i64 (-1)] w fun e w' => e = .returned (.int .i64 2147483646) ∧ w = w' :=
  (elemOf_any (-1) w (by omega) (by omega)).mono fun e w' ⟨he, hw⟩ => ⟨he, hw⟩

set_option maxRecDepth 100000 in
set_option maxHeartbeats 1600000 in
theorem linAdd_impl (o1 l1 h1 va xs) (o2 l2 h2 vb ys) (w : World) (t1 : Terms o1 l1 h1 w va xs) (hw1 : h1 ≤ w.heap.size) (t2 : Terms o2 l2 h2 w vb ys) (hw2 : h2 ≤ w.heap.size) :
    Calls Try.prog 99 #[.agg #[va], .agg #[vb]] w fun e w' => ∃ u, e = .returned (.tuple #[.agg #[u], .bool (lok xs ys)]) ∧ Below w.heap.size w w' ∧ Terms true w.heap.size w'.heap.size w' u (lcomb 1 xs ys) := by
  obtain ⟨a, ka, rfl, la, ba⟩ := t1.shape
  obtain ⟨b, kb, rfl, lb, bb⟩ := t2.shape
  go_enter Try.func99, Try.ntmps99
  go_wp2_with fail
  refine name_wp fun w1 hw1' => ?_
  have b1 : Below w.heap.size w w1.drew := by rw [hw1']; (repeat (first | with_reducible exact Below.refl _ _ | with_reducible assumption | with_reducible refine Below.drew ?_ | with_reducible refine bdrewN ?_ _ | ((with_reducible refine balloc ?_ ?_ _); (focus (first | with_reducible exact Nat.le_refl _ | (simp; done) | omega | (simp; omega) | exact Nat.le_refl _))) | ((with_reducible refine bset ?_ ?_ _); (focus (first | with_reducible exact Nat.le_refl _ | (simp; done) | omega | (simp; omega) | exact Nat.le_refl _)))))
  have z1 : w.heap.size + 3 ≤ w1.drew.heap.size := by rw [hw1']; simp
  have z1d : w.heap.size + 3 ≤ w1.heap.size := z1
  have cA1 : w1.drew.cell? ⟨w.heap.size, 0, none⟩ = some (.slice a xs.length ka) := by rw [hw1']; go_simp
  have cB1 : w1.drew.cell? ⟨w.heap.size + 1, 0, none⟩ = some (.slice b ys.length kb) := by rw [hw1']; go_simp
  have cR1 : w1.drew.cell? ⟨w.heap.size + 1 + 1, 0, none⟩ = some (.slice none 0 0) := by rw [hw1']; go_simp
  have fR1 : w1.drew.frozen? ⟨w.heap.size + 1 + 1, 0, none⟩ = false := by rw [hw1']; go_simp
  have t1' := t1.keep b1 hw1
  have t2' := t2.keep b1 hw2
  clear hw1'
  go_region_held3 (fun w' => w'.cell? ⟨w.heap.size, 0, none⟩ = some (.slice a xs.length ka) ∧ w'.cell? ⟨w.heap.size + 1, 0, none⟩ = some (.slice b ys.length kb))
    (first | exact ⟨cA1, cB1⟩ | exact ⟨cell_keep f2 cA1, cell_keep f2 cB1⟩ | exact ⟨cell_set1 (cell_keep f2 cA1) (by omega), cell_set1 (cell_keep f2 cB1) (by omega)⟩)
    (first
      | (go_at_call 97; refine (elemOf_any (1) _ (by omega) (by omega)).mono ?_; rintro e w' ⟨rfl, rfl⟩)
      | (go_at_call 96; refine (combine_impl _ _ _ _ xs _ _ _ _ ys 1 _ t1' (by omega) t2' (by omega) (by omega) (by omega)).mono ?_; rintro e w2 ⟨u, rfl, f2, tq⟩; obtain ⟨g, kg, rfl, lg, bg⟩ := tq.shape; have b2 := b1.trans (f2.mono (by omega)); have cR2 := cell_keep f2 cR1; have fR2 := (f2.frozen (p := ⟨w.heap.size + 1 + 1, 0, none⟩) (by simp; omega)).trans fR1))
  go_wp2_with fail
  exact bodyPost_ret (v := .tuple #[.agg #[.slice g (lcomb 1 xs ys).length kg], .bool (lok xs ys)]) (by simp [results, Try.results99, go_sem, cR2]) rfl ⟨_, rfl, by (repeat (first | with_reducible exact Below.refl _ _ | with_reducible assumption | with_reducible refine Below.drew ?_ | with_reducible refine bdrewN ?_ _ | ((with_reducible refine balloc ?_ ?_ _); (focus (first | with_reducible exact Nat.le_refl _ | (simp; done) | omega | (simp; omega) | exact Nat.le_refl _))) | ((with_reducible refine bset ?_ ?_ _); (focus (first | with_reducible exact Nat.le_refl _ | (simp; done) | omega | (simp; omega) | exact Nat.le_refl _))))), tq.stored (by omega) (by omega)⟩

set_option maxRecDepth 100000 in
set_option maxHeartbeats 1600000 in
theorem linSub_impl (o1 l1 h1 va xs) (o2 l2 h2 vb ys) (w : World) (t1 : Terms o1 l1 h1 w va xs) (hw1 : h1 ≤ w.heap.size) (t2 : Terms o2 l2 h2 w vb ys) (hw2 : h2 ≤ w.heap.size) :
    Calls Try.prog 156 #[.agg #[va], .agg #[vb]] w fun e w' => ∃ u, e = .returned (.tuple #[.agg #[u], .bool (lok xs ys)]) ∧ Below w.heap.size w w' ∧ Terms true w.heap.size w'.heap.size w' u (lcomb 2147483646 xs ys) := by
  obtain ⟨a, ka, rfl, la, ba⟩ := t1.shape
  obtain ⟨b, kb, rfl, lb, bb⟩ := t2.shape
  go_enter Try.func156, Try.ntmps156
  go_wp2_with fail
  refine name_wp fun w1 hw1' => ?_
  have b1 : Below w.heap.size w w1.drew := by rw [hw1']; (repeat (first | with_reducible exact Below.refl _ _ | with_reducible assumption | with_reducible refine Below.drew ?_ | with_reducible refine bdrewN ?_ _ | ((with_reducible refine balloc ?_ ?_ _); (focus (first | with_reducible exact Nat.le_refl _ | (simp; done) | omega | (simp; omega) | exact Nat.le_refl _))) | ((with_reducible refine bset ?_ ?_ _); (focus (first | with_reducible exact Nat.le_refl _ | (simp; done) | omega | (simp; omega) | exact Nat.le_refl _)))))
  have z1 : w.heap.size + 3 ≤ w1.drew.heap.size := by rw [hw1']; simp
  have z1d : w.heap.size + 3 ≤ w1.heap.size := z1
  have cA1 : w1.drew.cell? ⟨w.heap.size, 0, none⟩ = some (.slice a xs.length ka) := by rw [hw1']; go_simp
  have cB1 : w1.drew.cell? ⟨w.heap.size + 1, 0, none⟩ = some (.slice b ys.length kb) := by rw [hw1']; go_simp
  have cR1 : w1.drew.cell? ⟨w.heap.size + 1 + 1, 0, none⟩ = some (.slice none 0 0) := by rw [hw1']; go_simp
  have fR1 : w1.drew.frozen? ⟨w.heap.size + 1 + 1, 0, none⟩ = false := by rw [hw1']; go_simp
  have t1' := t1.keep b1 hw1
  have t2' := t2.keep b1 hw2
  clear hw1'
  go_region_held3 (fun w' => w'.cell? ⟨w.heap.size, 0, none⟩ = some (.slice a xs.length ka) ∧ w'.cell? ⟨w.heap.size + 1, 0, none⟩ = some (.slice b ys.length kb))
    (first | exact ⟨cA1, cB1⟩ | exact ⟨cell_keep f2 cA1, cell_keep f2 cB1⟩ | exact ⟨cell_set1 (cell_keep f2 cA1) (by omega), cell_set1 (cell_keep f2 cB1) (by omega)⟩)
    (first
      | (go_at_call 97; refine (elemOf_neg1 _).mono ?_; rintro e w' ⟨rfl, rfl⟩)
      | (go_at_call 96; refine (combine_impl _ _ _ _ xs _ _ _ _ ys 2147483646 _ t1' (by omega) t2' (by omega) (by omega) (by omega)).mono ?_; rintro e w2 ⟨u, rfl, f2, tq⟩; obtain ⟨g, kg, rfl, lg, bg⟩ := tq.shape; have b2 := b1.trans (f2.mono (by omega)); have cR2 := cell_keep f2 cR1; have fR2 := (f2.frozen (p := ⟨w.heap.size + 1 + 1, 0, none⟩) (by simp; omega)).trans fR1))
  go_wp2_with fail
  exact bodyPost_ret (v := .tuple #[.agg #[.slice g (lcomb 2147483646 xs ys).length kg], .bool (lok xs ys)]) (by simp [results, Try.results156, go_sem, cR2]) rfl ⟨_, rfl, by (repeat (first | with_reducible exact Below.refl _ _ | with_reducible assumption | with_reducible refine Below.drew ?_ | with_reducible refine bdrewN ?_ _ | ((with_reducible refine balloc ?_ ?_ _); (focus (first | with_reducible exact Nat.le_refl _ | (simp; done) | omega | (simp; omega) | exact Nat.le_refl _))) | ((with_reducible refine bset ?_ ?_ _); (focus (first | with_reducible exact Nat.le_refl _ | (simp; done) | omega | (simp; omega) | exact Nat.le_refl _))))), tq.stored (by omega) (by omega)⟩

set_option maxRecDepth 100000 in
set_option maxHeartbeats 1600000 in
theorem linTimes_impl (o1 l1 h1 va xs) (k : Int) (w : World) (t1 : Terms o1 l1 h1 w va xs) (hw1 : h1 ≤ w.heap.size) (k0 : -9223372036854775808 ≤ k) (k1 : k ≤ 9223372036854775807) :
    Calls Try.prog 160 #[.agg #[va], .int .i64 k] w fun e w' => ∃ u, e = .returned (.tuple #[.agg #[u], .bool (lok [] xs)]) ∧ Below w.heap.size w w' ∧ Terms true w.heap.size w'.heap.size w' u (lcomb (k % 2147483647) [] xs) := by
  obtain ⟨a, ka, rfl, la, ba⟩ := t1.shape
  have em := em_bd k
  go_enter Try.func160, Try.ntmps160
  go_wp2_with fail
  refine name_wp fun w1 hw1' => ?_
  have b1 : Below w.heap.size w w1.drew := by rw [hw1']; (repeat (first | with_reducible exact Below.refl _ _ | with_reducible assumption | with_reducible refine Below.drew ?_ | with_reducible refine bdrewN ?_ _ | ((with_reducible refine balloc ?_ ?_ _); (focus (first | with_reducible exact Nat.le_refl _ | (simp; done) | omega | (simp; omega) | exact Nat.le_refl _))) | ((with_reducible refine bset ?_ ?_ _); (focus (first | with_reducible exact Nat.le_refl _ | (simp; done) | omega | (simp; omega) | exact Nat.le_refl _)))))
  have z1 : w.heap.size + 2 ≤ w1.drew.heap.size := by rw [hw1']; simp
  have z1d : w.heap.size + 2 ≤ w1.heap.size := z1
  have cA1 : w1.drew.cell? ⟨w.heap.size, 0, none⟩ = some (.slice a xs.length ka) := by rw [hw1']; go_simp
  have cR1 : w1.drew.cell? ⟨w.heap.size + 1, 0, none⟩ = some (.slice none 0 0) := by rw [hw1']; go_simp
  have fR1 : w1.drew.frozen? ⟨w.heap.size + 1, 0, none⟩ = false := by rw [hw1']; go_simp
  have t1' := t1.keep b1 hw1
  clear hw1'
  go_region_held3 (fun w' => w'.cell? ⟨w.heap.size, 0, none⟩ = some (.slice a xs.length ka))
    (first | exact cA1 | exact cell_keep f2 cA1 | exact cell_set1 (cell_keep f2 cA1) (by omega))
    (first
      | (go_at_call 97; refine (elemOf_any k _ k0 k1).mono ?_; rintro e w' ⟨rfl, rfl⟩)
      | (go_at_call 96; refine (combine_impl true 0 0 _ [] _ _ _ _ xs (k % 2147483647) _ (Terms.nil _ _ _ _) (Nat.zero_le _) t1' (by omega) em.1 em.2).mono ?_; rintro e w2 ⟨u, rfl, f2, tq⟩; obtain ⟨g, kg, rfl, lg, bg⟩ := tq.shape; have b2 := b1.trans (f2.mono (by omega)); have cR2 := cell_keep f2 cR1; have fR2 := (f2.frozen (p := ⟨w.heap.size + 1, 0, none⟩) (by simp; omega)).trans fR1))
  go_wp2_with fail
  exact bodyPost_ret (v := .tuple #[.agg #[.slice g (lcomb (k % 2147483647) [] xs).length kg], .bool (lok [] xs)]) (by simp [results, Try.results160, go_sem, cR2]) rfl ⟨_, rfl, by (repeat (first | with_reducible exact Below.refl _ _ | with_reducible assumption | with_reducible refine Below.drew ?_ | with_reducible refine bdrewN ?_ _ | ((with_reducible refine balloc ?_ ?_ _); (focus (first | with_reducible exact Nat.le_refl _ | (simp; done) | omega | (simp; omega) | exact Nat.le_refl _))) | ((with_reducible refine bset ?_ ?_ _); (focus (first | with_reducible exact Nat.le_refl _ | (simp; done) | omega | (simp; omega) | exact Nat.le_refl _))))), tq.stored (by omega) (by omega)⟩

end Go.Proofs.Yteekpdlkdpkegaa.L
