/- The model's multiple of a combination that need not be valid; the draw of two combinations. -/
import Derived.Test.YtoeklalhbkdjnaaLinE
import Derived.Test.YtoeklalhbkdjnaaB17
import Derived.Test.YtoeklalhbkdjnaaB5
namespace Go.Proofs.Ytoeklalhbkdjnaa.L
open Go.RowKit Go.Shelf Go.Proofs.Ytoeklalhbkdjnaa.S
set_option linter.unusedVariables false
set_option linter.unusedSimpArgs false

theorem tmod_fits (x : Int) : Fits (Int.tmod x 2147483647) := by
  unfold Fits
  have h1 := Int.tmod_lt_of_pos x (b := 2147483647) (by omega)
  have h2 := Int.tmod_lt_of_pos (-x) (b := 2147483647) (by omega)
  rw [Int.neg_tmod] at h2
  omega
theorem l1mul_odd (a b : Int) (w : World) (a0 : 0 ≤ a) (a1 : a < 2147483647) (b0 : -1 ≤ b) (b1 : b ≤ 2147483647) :
    Calls Try.prog 55 #[.int .i64 a, .int .i64 b] w fun e w' => ∃ m, e = .returned (.int .i64 m) ∧ Fits m ∧ w = w' := by
  obtain ⟨p, hp⟩ : ∃ p, p = a * b := ⟨_, rfl⟩
  have p0 : -2147483647 ≤ p := by
    rw [hp]
    by_cases h : 0 ≤ b
    · have := Int.mul_nonneg a0 h; omega
    · obtain rfl : b = -1 := by omega
      omega
  have p1 : p ≤ 4611686018427387904 := by
    rw [hp]
    by_cases h : 0 ≤ b
    · have := Int.mul_le_mul (show a ≤ 2147483647 by omega) b1 h (by omega)
      omega
    · obtain rfl : b = -1 := by omega
      omega
  have hw : IntKind.i64.wrap (a * b) = p := by rw [← hp, IntKind.wrap_i64]; omega
  go_enter Try.func55, Try.ntmps55
  go_wp2
  go_ret
  exact ⟨_, rfl, tmod_fits _, rfl⟩
/-- What lies behind the choice of the next term. -/
def CutO (j : Nat) (wr : World) (s8 s9 s10 : Value) (wx : World) : Prop :=
  ∃ (g : Nat) (tv tk : Int), s8 = .int .i64 0 ∧ s9 = .int .i64 ((j + 1 : Nat) : Int) ∧ s10 = .pointer (some ⟨g, 0, none⟩) ∧ wx.cell? ⟨g, 0, none⟩ = some (.int .i64 tv) ∧ wx.cell? ⟨g, 1, none⟩ = some (.int .i64 tk) ∧ Fits tv ∧ Fits tk ∧ Below wr.heap.size wr wx

set_option maxRecDepth 100000 in
set_option maxHeartbeats 3200000 in
/-- A multiple of any combination whose factors are nearly in the field. -/
theorem l2add_odd (o2 l2 h2 vb ys) (k : Int) (w : World) (t2 : Terms o2 l2 h2 w vb ys) (hw2 : h2 ≤ w.heap.size) (k0 : 0 ≤ k) (k1 : k < 2147483647) (hy : ∀ t ∈ ys, -1 ≤ t.2 ∧ t.2 ≤ 2147483647) (ny : ys.length ≤ 1048576) :
    Calls Try.prog 49 #[.agg #[.slice none 0 0], .agg #[vb], .int .i64 k] w fun e w' => ∃ u zs, e = .returned (.agg #[u]) ∧ Below w.heap.size w w' ∧ Terms true w.heap.size w'.heap.size w' u zs ∧ zs.length ≤ ys.length := by
  obtain ⟨b, kb, rfl, la2, ba2⟩ := t2.shape
  obtain ⟨i0, hi0, hz0, hz1, hz2⟩ := info_parts termInfo
  go_enter Try.func49, Try.ntmps49
  go_wp2_with fail
  generalize hW : World.alloc _ _ = W
  have bW : Below w.heap.size w W := by rw [← hW]; (repeat (first | with_reducible exact Below.refl _ _ | with_reducible assumption | with_reducible refine Below.drew ?_ | with_reducible refine bdrewN ?_ _ | ((with_reducible refine balloc ?_ ?_ _); (focus (first | with_reducible exact Nat.le_refl _ | (simp; done) | omega | (simp; omega) | exact Nat.le_refl _))) | ((with_reducible refine bset ?_ ?_ _); (focus (first | with_reducible exact Nat.le_refl _ | (simp; done) | omega | (simp; omega) | exact Nat.le_refl _)))))
  have zW : w.heap.size + 4 ≤ W.heap.size := by rw [← hW]; simp
  have cA : Boxed W w.heap.size 25 (.slice none 0 0) := by rw [← hW]; exact (((Boxed.new w _ _).alloc _).alloc _).alloc _
  have cB : Boxed W (w.heap.size + 1) 25 (.slice b ys.length kb) := by
    rw [← hW]
    have e1 := Boxed.new (w.alloc (.cells #[.slice none 0 0] 25)) 25 (.slice b ys.length kb)
    simp only [World.size_alloc] at e1
    exact (e1.alloc _).alloc _
  have cR : Boxed W (w.heap.size + 1 + 1) 25 (.slice none 0 0) := by
    rw [← hW]
    have e1 := Boxed.new ((w.alloc (.cells #[.slice none 0 0] 25)).alloc (.cells #[.slice b ys.length kb] 25)) 25 (.slice none 0 0)
    simp only [World.size_alloc] at e1
    exact e1.alloc _
  have cO : Boxed W (w.heap.size + 1 + 1 + 1) 25 (.slice none 0 0) := by
    rw [← hW]
    have e1 := Boxed.new (((w.alloc (.cells #[.slice none 0 0] 25)).alloc (.cells #[.slice b ys.length kb] 25)).alloc (.cells #[.slice none 0 0] 25)) 25 (.slice none 0 0)
    simp only [World.size_alloc] at e1
    exact e1
  clear hW
  go_loopw [8, 9] (fun p q wr => ∃ (j : Nat) (pre : List T) (v : Value), p = .int .i64 0 ∧ q = .int .i64 j ∧ j ≤ ys.length ∧ pre.length ≤ j ∧ (∀ t ∈ pre, Fits t.1 ∧ Fits t.2) ∧ Below w.heap.size w wr ∧ w.heap.size + 4 ≤ wr.heap.size ∧ Boxed wr w.heap.size 25 (.slice none 0 0) ∧ Boxed wr (w.heap.size + 1) 25 (.slice b ys.length kb) ∧ Boxed wr (w.heap.size + 1 + 1) 25 (.slice none 0 0) ∧ Boxed wr (w.heap.size + 1 + 1 + 1) 25 v ∧ wr.ownsRow w.heap.size 48 2 v pre.length (cells pre))
    (fun p q wr => ys.length - (intOf q).toNat)
  case atStart => exact ⟨0, [], _, rfl, rfl, Nat.zero_le _, Nat.zero_le _, by simp, bW, zW, cA, cB, cR, cO, World.ownsRow_nil _ _ _ _⟩
  case round =>
    obtain ⟨j, pre, v, rfl, rfl, hj, hlen, hfit, be, hz, bA, bB, bR, bO, hrow⟩ := hrel
    have ca := bA.cell
    have cb := bB.cell
    have t2r := t2.keep be hw2
    have hc0 : w.heap.size < wr.heap.size := by omega
    have hc1 : w.heap.size + 1 < wr.heap.size := by omega
    have HFIT := Lib.hid hfit
    clear hfit
    by_cases hB : j < ys.length
    · go_upto_block 2 with fail
      go_cut [8, 9, 10] (fun s8 s9 s10 wx => CutO j wr s8 s9 s10 wx)
      case rest =>
        obtain ⟨g, tv, tk, rfl, rfl, rfl, d0, d1, ft, fk, be2⟩ := hcut
        have be3 := be.trans (be2.mono be.size)
        have z3 := be2.size
        have bA' := bA.kept (grown_of_below be2) (fun h => by cases h)
        have bB' := bB.kept (grown_of_below be2) (fun h => by cases h)
        have bR' := bR.kept (grown_of_below be2) (fun h => by cases h)
        have bO' := bO.kept (grown_of_below be2) (fun h => by cases h)
        have row' := row_keep hrow be2
        clear bA bB bR bO hrow ca cb
        have HT := Lib.hid (And.intro ft fk)
        clear ft fk
        by_cases h0 : tk = 0
        · have hb0 : (tk != 0) = false := by simp [h0]
          clear h0
          go_wp2_with fail
          go_roundw
          case rel => exact ⟨j + 1, pre, v, rfl, by go_num, by omega, by omega, HFIT.out, be3, by omega, bA', bB', bR', bO', row'⟩
          case measure => simp [intOf]; omega
        · have hb0 : (tk != 0) = true := by simp [h0]
          have hO := bO'.cell
          have lg : g < wc.heap.size := World.block_lt_of_cell? wc _ d0
          clear h0
          go_wp2_with (at_builtin; refine wpList_append_own _ rfl _ _ 23 rfl w.heap.size 48 i0 (.agg #[.int .i64 0, .int .i64 0]) 2 16 Try.underlying23 hi0 hz0 hz1 hz2 rfl (by decide) _ _ _ rfl (row'.alloc _) ⟨wc.heap.size, 0, none⟩ 1 1 [.int .i64 tv, .int .i64 tk] rfl rfl (cells_two_new _ _ _ _) (by simp [Value.oneCell']) (by unfold maxLen; omega) (by omega) (by simp; omega) ?_; intro v' w5 hown' hgrow _; obtain ⟨g', cap', rfl⟩ := ownsRow_succ hown'; obtain ⟨hv1, hv2, hr2, hk2, hb2⟩ := bO'.appended (by decide) row' (by omega) (by omega) hown' hgrow; have hc1 := hv1.cell; have hf1 := hv1.frozen)
          have bA2 := box_appended (x := .slice (some ⟨g', 0, none⟩) (pre.length + 1) cap') (B := w.heap.size + 1 + 1 + 1) bA' (by decide) row' hgrow (by omega)
          have bB2 := box_appended (x := .slice (some ⟨g', 0, none⟩) (pre.length + 1) cap') (B := w.heap.size + 1 + 1 + 1) bB' (by decide) row' hgrow (by omega)
          have bR2 := box_appended (x := .slice (some ⟨g', 0, none⟩) (pre.length + 1) cap') (B := w.heap.size + 1 + 1 + 1) bR' (by decide) row' hgrow (by omega)
          have hsz := hb2.size
          go_roundw
          case rel => exact ⟨j + 1, pre ++ [(tv, tk)], _, rfl, by go_num, by omega, by simp; omega, (by intro t ht; rcases List.mem_append.1 ht with h | h; exact HFIT.out t h; simp at h; subst h; exact HT.out), be3.trans hb2, by omega, bA2, bB2, bR2, hv2, by rw [cells_append]; simpa [cells] using hr2⟩
          case measure => simp [intOf]; omega
      case first =>
        obtain ⟨b2, f2, x2, y2, eb, p2, q2, c2, d2, u2, v3, v4⟩ := t2r.at hB
        obtain rfl := eb
        have s2 : b2 < wr.heap.size := World.block_lt_of_cell? wr _ c2
        obtain ⟨g7, g8⟩ := hy _ (List.mem_of_getElem? u2)
        have hBf : decide (ys.length ≤ j) = false := decide_eq_false (by omega)
        simp only at g7 g8
        clear u2
        go_wp2_with fail
        go_quiet (fail)
        go_wp2_with fail
        go_quiet (fail)
        go_wp2_with fail
        generalize hz1' : World.drewN _ _ = wz
        have bz : Below wr.heap.size wr wz := by rw [← hz1']; (repeat (first | with_reducible exact Below.refl _ _ | with_reducible assumption | with_reducible refine Below.drew ?_ | with_reducible refine bdrewN ?_ _ | ((with_reducible refine balloc ?_ ?_ _); (focus (first | with_reducible exact Nat.le_refl _ | (simp; done) | omega | (simp; omega) | exact Nat.le_refl _))) | ((with_reducible refine bset ?_ ?_ _); (focus (first | with_reducible exact Nat.le_refl _ | (simp; done) | omega | (simp; omega) | exact Nat.le_refl _)))))
        have zz : wr.heap.size + 1 ≤ wz.heap.size := by rw [← hz1']; simp
        have ca' := cell_keep bz ca
        have cb' := cell_keep bz cb
        have c2' := cell_keep bz c2
        have d2' := cell_keep bz d2
        have hg0 : wz.cell? ⟨wr.heap.size, 0, none⟩ = some (.int .i64 0) := by rw [← hz1']; simp
        have hg1 : wz.cell? ⟨wr.heap.size, 1, none⟩ = some (.int .i64 0) := by rw [← hz1']; simp
        have fg0 : wz.frozen? ⟨wr.heap.size, 0, none⟩ = false := by rw [← hz1']; simp
        have fg1 : wz.frozen? ⟨wr.heap.size, 1, none⟩ = false := by rw [← hz1']; simp
        clear hz1' ca cb c2 d2
        go_region_held3 (fun w' => w'.cell? ⟨w.heap.size + 1, 0, none⟩ = some (.slice (some ⟨b2, f2, none⟩) ys.length kb) ∧ w'.cell? ⟨b2, f2 + j * 2, none⟩ = some (.int .i64 x2) ∧ w'.cell? ⟨b2, f2 + j * 2 + 1, none⟩ = some (.int .i64 y2))
          (first | exact ⟨cb', c2', d2'⟩ | exact ⟨cell_set2 cb' (by omega), cell_set2 c2' (by omega), cell_set2 d2' (by omega)⟩)
          (first
            | (go_at_call 55; refine (l1mul_odd k y2 _ k0 k1 g7 g8).mono ?_; rintro e w' ⟨m, rfl, fm, rfl⟩))
        go_wp2_with fail
        have bm := bz
        go_meet
        case rel => exact ⟨wr.heap.size, x2, m, rfl, by go_num, rfl, (cell_one2 hg0 hg1).1, (cell_one2 hg0 hg1).2, v3, fm, by (repeat (first | with_reducible exact Below.refl _ _ | with_reducible assumption | with_reducible refine Below.drew ?_ | with_reducible refine bdrewN ?_ _ | ((with_reducible refine balloc ?_ ?_ _); (focus (first | with_reducible exact Nat.le_refl _ | (simp; done) | omega | (simp; omega) | exact Nat.le_refl _))) | ((with_reducible refine bset ?_ ?_ _); (focus (first | with_reducible exact Nat.le_refl _ | (simp; done) | omega | (simp; omega) | exact Nat.le_refl _)))))⟩
    · obtain rfl : j = ys.length := by omega
      clear hB
      have ht := Terms.own hrow HFIT.out
      obtain ⟨g, cg, rfl, lg, bg⟩ := ht.shape
      have hO := bO.cell
      have hRc := bR.cell
      have hRf := bR.frozen
      have r2 := hrow.kept (grownBy_setCell' wr (w.heap.size + 1 + 1) (.slice g pre.length cg)) (.inr (bR.not_row (by decide) hrow).symm)
      have t5 := Terms.own r2 HFIT.out
      clear r2
      go_wp2_with fail
      exact bodyPost_ret (v := .agg #[.slice g pre.length cg]) (by simp [results, Try.results49, go_sem, hRc]) rfl ⟨_, _, rfl, by (repeat (first | with_reducible exact Below.refl _ _ | with_reducible assumption | with_reducible refine Below.drew ?_ | with_reducible refine bdrewN ?_ _ | ((with_reducible refine balloc ?_ ?_ _); (focus (first | with_reducible exact Nat.le_refl _ | (simp; done) | omega | (simp; omega) | exact Nat.le_refl _))) | ((with_reducible refine bset ?_ ?_ _); (focus (first | with_reducible exact Nat.le_refl _ | (simp; done) | omega | (simp; omega) | exact Nat.le_refl _))))), t5, hlen⟩

end Go.Proofs.Ytoeklalhbkdjnaa.L
