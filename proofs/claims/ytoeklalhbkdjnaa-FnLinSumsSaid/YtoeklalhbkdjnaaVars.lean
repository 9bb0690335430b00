/- The variables of a combination: the program's function and its model. -/
import Derived.Test.YtoeklalhbkdjnaaNums2
import Derived.Test.YtoeklalhbkdjnaaCoeff
import Derived.OwnWalk
import Derived.Deep.Cut
namespace Go.Proofs.Ytoeklalhbkdjnaa.L
open Go.RowKit Go.Shelf Go.Proofs.Ytoeklalhbkdjnaa.S
set_option linter.unusedVariables false
set_option linter.unusedSimpArgs false

def varsOf (ts : List T) : List Int := if linOk ts = true then ts.map (·.1) else []
theorem varsOf_len (ts : List T) : (varsOf ts).length ≤ 3000 := by
  unfold varsOf
  split
  · rename_i h; have := linOk_length h; simpa using this
  · simp
theorem varsOf_fits {ts : List T} (h : linOk ts = true) : ∀ x ∈ ts.map (·.1), Fits x := fun x hx => by
  obtain ⟨t, ht, rfl⟩ := List.mem_map.1 hx
  exact (linOk_fits h t ht).1

set_option maxRecDepth 100000 in
set_option maxHeartbeats 1600000 in
theorem vars_impl (o1 l1 h1 va ts) (w : World) (t1 : Terms o1 l1 h1 w va ts) (hw1 : h1 ≤ w.heap.size) :
    Calls Try.prog 19 #[.agg #[va]] w fun e w' => ∃ u, e = .returned u ∧ Below w.heap.size w w' ∧ Nums true w.heap.size w'.heap.size w' u (varsOf ts) := by
  obtain ⟨a, ca, rfl, la, ba⟩ := t1.shape
  obtain ⟨i0, hi0, hz0, hz1, hz2⟩ := info_parts intInfo
  by_cases hk : linOk ts = true
  · rw [show varsOf ts = ts.map (·.1) from if_pos hk]
    have nl := linOk_length hk
    go_enter Try.func19, Try.ntmps19
    go_wp2_with fail
    refine name_call fun w1 hw1' => ?_
    have b1 : Below w.heap.size w w1 := by rw [hw1']; (repeat (with_reducible first | exact bR _ _ | assumption | refine bD ?_ | refine bN ?_ _ | refine bA ?_ _ | refine bS ?_ _))
    have z1 : w.heap.size + 1 ≤ w1.heap.size := by rw [hw1']; simp
    have cA1 : Boxed w1 w.heap.size 25 (.slice a ts.length ca) := by rw [hw1']; exact Boxed.new _ _ _
    clear hw1'
    refine (linOk_impl_yes o1 l1 h1 _ ts w1 (t1.keep b1 hw1) (by omega) hk).mono ?_; rintro e w2 ⟨rfl, f2⟩
    have b2 := b1.trans (f2.mono (by omega))
    have z2 := f2.size
    have cA2 := cA1.kept (grown_of_below f2) (fun h => by cases h)
    have cc := cA2.cell
    clear cA1
    go_wp2_with fail
    go_loopw [3, 12] (fun v i wr => ∃ k : Nat, k ≤ ts.length ∧ i = .int .i64 k ∧ Below w.heap.size w wr ∧ w.heap.size + 1 ≤ wr.heap.size ∧ Boxed wr w.heap.size 25 (.slice a ts.length ca) ∧ wr.ownsRow w.heap.size 3 1 v k ((ts.take k).map (fun t => Value.int .i64 t.1))) (fun _ i _ => ts.length - (intOf i).toNat)
    case atStart => exact ⟨0, Nat.zero_le _, rfl, b2, by omega, cA2, World.ownsRow_nil _ _ _ _⟩
    case round =>
      obtain ⟨k, hkl, rfl, be, hz, hbx, hrow⟩ := hrel
      have hc := hbx.cell
      by_cases hlt : k < ts.length
      · obtain ⟨b, off, x, y, rfl, l1', m1, c1, d1, e1, fx, fy⟩ := (t1.keep be hw1).at hlt
        have hbs : b < wr.heap.size := World.block_lt_of_cell? wr _ c1
        go_upto_region 7 with fail
        refine name_wp fun wq hq => ?_
        have bq : Below wr.heap.size wr wq := by rw [hq]; (repeat (with_reducible first | exact bR _ _ | assumption | refine bD ?_ | refine bN ?_ _ | refine bA ?_ _ | refine bS ?_ _))
        have beq := be.trans (bq.mono be.size)
        have zq : w.heap.size + 1 ≤ wq.heap.size := Nat.le_trans hz bq.size
        have hbq := hbx.kept (grown_of_below bq) (fun h => by cases h)
        have hcq := hbq.cell
        have c1q := cell_keep bq c1
        have hrowq := row_keep hrow bq
        have lw : w.heap.size < wq.heap.size := by omega
        have lb : b < wq.heap.size := World.block_lt_of_cell? wq _ c1q
        have ct : wq.cell? ⟨wr.heap.size, 0, none⟩ = some (.int .i64 x) := by rw [hq]; go_simp
        have lt' : wr.heap.size < wq.heap.size := World.block_lt_of_cell? wq _ ct
        have HT : Hid ((ts.take (k + 1)).map (fun t => Value.int .i64 t.1) = (ts.take k).map (fun t => Value.int .i64 t.1) ++ [.int .i64 x]) := Lib.hid (by rw [take_step e1]; simp)
        clear hq hrow hc hbx e1 c1 d1 bq
        go_wp2_with (at_builtin; refine wpList_append_own _ rfl _ _ 26 rfl w.heap.size 3 i0 (.int .i64 0) 1 8 Try.underlying26 hi0 hz0 hz1 hz2 rfl (by decide) _ _ _ rfl (hrowq.alloc _) ⟨wq.heap.size, 0, none⟩ 1 1 [.int .i64 x] rfl rfl (cell_one_new' _ _ _) (by simp [Value.oneCell']) (by unfold maxLen; omega) (by omega) (by simp; omega) ?_; intro v' w5 hown' hgrow _)
        have hb5 := (hbq.alloc (.cells #[.int .i64 x] 3)).kept hgrow (hbq.not_row (by decide) hrowq)
        have be5 := (beq.alloc (by omega) (.cells #[.int .i64 x] 3)).grown hgrow (by simp; omega) (fun j ej => (hrowq.lt j ej).1)
        have z5 := hgrow.size
        simp only [World.size_alloc] at z5
        go_roundw
        case rel => exact ⟨k + 1, by omega, by go_num, be5, by omega, hb5, by rw [HT.out]; exact hown'⟩
        case measure => simp [intOf]; omega
      · obtain rfl : k = ts.length := by omega
        rw [List.take_length] at hrow
        have ht := Nums.own (ts := ts.map (·.1)) (by rw [List.length_map, List.map_map]; exact hrow) (varsOf_fits hk)
        obtain ⟨g, cg, rfl, lg, bg⟩ := ht.shape
        clear hrow
        go_wp2_with fail
        go_ret
        exact ⟨_, rfl, be, ht⟩
  · rw [show varsOf ts = [] from if_neg hk]
    have hk' : linOk ts = false := by simpa using hk
    clear hk
    go_enter Try.func19, Try.ntmps19
    go_wp2_with fail
    refine name_call fun w1 hw1' => ?_
    have b1 : Below w.heap.size w w1 := by rw [hw1']; (repeat (with_reducible first | exact bR _ _ | assumption | refine bD ?_ | refine bN ?_ _ | refine bA ?_ _ | refine bS ?_ _))
    have z1 : w.heap.size + 1 ≤ w1.heap.size := by rw [hw1']; simp
    clear hw1'
    refine (linOk_impl_no o1 l1 h1 _ ts w1 (t1.keep b1 hw1) (by omega) hk').mono ?_; rintro e w2 ⟨rfl, f2⟩
    have b2 := b1.trans (f2.mono (by omega))
    go_wp2_with fail
    go_ret
    exact ⟨_, rfl, b2, Nums.nil _ _ _ _⟩

end Go.Proofs.Ytoeklalhbkdjnaa.L
