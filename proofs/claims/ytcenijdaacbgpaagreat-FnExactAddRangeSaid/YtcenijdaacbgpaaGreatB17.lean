/- B17: SpecAdd SpecSub -/
import Derived.Test.YtcenijdaacbgpaaGreatB16
import Derived.OwnWalk
set_option linter.unusedVariables false
set_option linter.unusedSimpArgs false
/- The model's sum of linear combinations. -/
namespace Go.Proofs.YtcenijdaacbgpaaGreat.L
open Go.RowKit Go.Shelf Go.Proofs.YtcenijdaacbgpaaGreat.S
set_option linter.unusedVariables false
set_option linter.unusedSimpArgs false

/-- Each factor is a number of the field (the variables may be any). -/
structure KIn (xs : List T) : Prop where
 out : ∀ t ∈ xs, 0 ≤ t.2 ∧ t.2 < 2147483647
theorem KIn.of_ok {xs : List T} (h : linOk xs = true) : KIn xs := ⟨fun t ht => by have := linOk_mem h t ht; omega⟩
theorem KIn.at {xs : List T} (h : KIn xs) {i : Nat} {t : T} (hi : xs[i]? = some t) : 0 ≤ t.2 ∧ t.2 < 2147483647 := h.out t (List.mem_of_getElem? hi)
theorem KIn.nil : KIn [] := ⟨fun t ht => by cases ht⟩
theorem KIn.one {v k : Int} (h0 : 0 ≤ k) (h1 : k < 2147483647) : KIn [(v, k)] := ⟨fun t ht => by rw [List.mem_singleton] at ht; subst ht; exact ⟨h0, h1⟩⟩
theorem kp_mem {t : T} {l : List T} {x : T} (h : x ∈ kp t l) : x = t ∨ x ∈ l := by
 unfold kp at h; split at h
 ·exact .inr h
 ·exact List.mem_cons.1 h
theorem mrg_mem (k : Int) : ∀ (xs ys : List T), KIn xs → ∀ t ∈ mrg k xs ys, ((∃ u ∈ xs, u.1 = t.1) ∨ ∃ u ∈ ys, u.1 = t.1) ∧ 0 ≤ t.2 ∧ t.2 < 2147483647
 | [], [], _, t, ht => by rw [mrg_nil] at ht; cases ht
 | a :: xs, [], hx, t, ht => by
  rw [mrg_a] at ht
  rcases kp_mem ht with rfl | h
  ·exact ⟨.inl ⟨_, by simp, rfl⟩, hx.out _ (by simp)⟩
  ·obtain ⟨h1, h2⟩ := mrg_mem k xs [] ⟨fun t ht => hx.out t (by simp [ht])⟩ t h
   refine ⟨?_, h2⟩
   rcases h1 with ⟨u, hu, e⟩ | ⟨u, hu, e⟩
   ·exact .inl ⟨u, by simp [hu], e⟩
   ·cases hu
 | [], b :: ys, hx, t, ht => by
  rw [mrg_b] at ht
  rcases kp_mem ht with rfl | h
  ·exact ⟨.inr ⟨b, by simp, rfl⟩, by simp only [tm]; omega⟩
  ·obtain ⟨h1, h2⟩ := mrg_mem k [] ys hx t h
   refine ⟨?_, h2⟩
   rcases h1 with ⟨u, hu, e⟩ | ⟨u, hu, e⟩
   ·cases hu
   ·exact .inr ⟨u, by simp [hu], e⟩
 | a :: xs, b :: ys, hx, t, ht => by
  have hx' : KIn xs := ⟨fun t ht => hx.out t (by simp [ht])⟩
  by_cases h1 : a.1 < b.1
  ·rw [mrg_lt _ _ _ _ _ h1] at ht
   rcases kp_mem ht with rfl | h
   ·exact ⟨.inl ⟨_, by simp, rfl⟩, hx.out _ (by simp)⟩
   ·obtain ⟨h1, h2⟩ := mrg_mem k xs (b :: ys) hx' t h
    refine ⟨?_, h2⟩
    rcases h1 with ⟨u, hu, e⟩ | ⟨u, hu, e⟩
    ·exact .inl ⟨u, by simp [hu], e⟩
    ·exact .inr ⟨u, hu, e⟩
  ·by_cases h2 : b.1 < a.1
   ·rw [mrg_gt _ _ _ _ _ h2] at ht
    rcases kp_mem ht with rfl | h
    ·exact ⟨.inr ⟨b, by simp, rfl⟩, by simp only [tm]; omega⟩
    ·obtain ⟨h1, h2⟩ := mrg_mem k (a :: xs) ys hx t h
     refine ⟨?_, h2⟩
     rcases h1 with ⟨u, hu, e⟩ | ⟨u, hu, e⟩
     ·exact .inl ⟨u, hu, e⟩
     ·exact .inr ⟨u, by simp [hu], e⟩
   ·rw [mrg_eq _ _ _ _ _ (by omega)] at ht
    rcases kp_mem ht with rfl | h
    ·exact ⟨.inl ⟨a, by simp, rfl⟩, by simp only [pl]; omega⟩
    ·obtain ⟨h1, h2⟩ := mrg_mem k xs ys hx' t h
     refine ⟨?_, h2⟩
     rcases h1 with ⟨u, hu, e⟩ | ⟨u, hu, e⟩
     ·exact .inl ⟨u, by simp [hu], e⟩
     ·exact .inr ⟨u, by simp [hu], e⟩
theorem KIn.mrg {k : Int} {xs ys : List T} (hx : KIn xs) : KIn (mrg k xs ys) := ⟨fun t ht => (mrg_mem k xs ys hx t ht).2⟩
theorem mrg_fits {k : Int} {xs ys : List T} (hx : KIn xs) (fx : ∀ t ∈ xs, Fits t.1 ∧ Fits t.2) (fy : ∀ t ∈ ys, Fits t.1 ∧ Fits t.2) : ∀ t ∈ mrg k xs ys, Fits t.1 ∧ Fits t.2 := fun t ht => by
 obtain ⟨h1, h2⟩ := mrg_mem k xs ys hx t ht
 refine ⟨?_, by unfold Fits; omega⟩
 rcases h1 with ⟨u, hu, e⟩ | ⟨u, hu, e⟩
 ·rw [← e]; exact (fx u hu).1
 ·rw [← e]; exact (fy u hu).1

set_option maxRecDepth 100000 in
set_option maxHeartbeats 1600000 in
theorem l2add_wide (o1 l1 h1 va xs) (o2 l2 h2 vb ys) (k : Int) (w : World) (t1 : Terms o1 l1 h1 w va xs) (hw1 : h1 ≤ w.heap.size) (t2 : Terms o2 l2 h2 w vb ys) (hw2 : h2 ≤ w.heap.size) (k0 : 0 ≤ k) (k1 : k < 2147483647) (hx : KIn xs) (hy : KIn ys) (nx : xs.length ≤ 1048576) (ny : ys.length ≤ 1048576) :
  Calls Tryz.prog 76 #[.agg #[va], .agg #[vb], .int .i64 k] w fun e w' => ∃ u, e = .returned (.agg #[u]) ∧ Below w.heap.size w w' ∧ Terms true w.heap.size w'.heap.size w' u (mrg k xs ys) := by
 obtain ⟨a, ka, rfl, la1, ba1⟩ := t1.shape
 obtain ⟨b, kb, rfl, la2, ba2⟩ := t2.shape
 obtain ⟨i0, hi0, hz0, hz1, hz2⟩ := info_parts termInfo
 have fM := Lib.hid (mrg_fits (k := k) hx t1.fits t2.fits)
 go_enter Tryz.func76, Tryz.ntmps76
 go_wp2_with fail
 generalize hW : World.alloc _ _ = W
 have bW : Below w.heap.size w W := by rw [← hW]; (repeat (first | with_reducible exact Below.refl _ _ | with_reducible assumption | with_reducible refine Below.drew ?_ | with_reducible refine bdrewN ?_ _ | ((with_reducible refine balloc ?_ ?_ _); (focus (first | with_reducible exact Nat.le_refl _ | (simp; done) | omega | (simp; omega) | exact Nat.le_refl _))) | ((with_reducible refine bset ?_ ?_ _); (focus (first | with_reducible exact Nat.le_refl _ | (simp; done) | omega | (simp; omega) | exact Nat.le_refl _)))))
 have zW : w.heap.size + 4 ≤ W.heap.size := by rw [← hW]; simp
 have cA : Boxed W w.heap.size 42 (.slice a xs.length ka) := by rw [← hW]; exact (((Boxed.new w _ _).alloc _).alloc _).alloc _
 have cB : Boxed W (w.heap.size + 1) 42 (.slice b ys.length kb) := by
  rw [← hW]
  have e1 := Boxed.new (w.alloc (.cells #[.slice a xs.length ka] 42)) 42 (.slice b ys.length kb)
  simp only [World.size_alloc] at e1
  exact (e1.alloc _).alloc _
 have cR : Boxed W (w.heap.size + 1 + 1) 42 (.slice none 0 0) := by
  rw [← hW]
  have e1 := Boxed.new ((w.alloc (.cells #[.slice a xs.length ka] 42)).alloc (.cells #[.slice b ys.length kb] 42)) 42 (.slice none 0 0)
  simp only [World.size_alloc] at e1
  exact e1.alloc _
 have cO : Boxed W (w.heap.size + 1 + 1 + 1) 42 (.slice none 0 0) := by
  rw [← hW]
  have e1 := Boxed.new (((w.alloc (.cells #[.slice a xs.length ka] 42)).alloc (.cells #[.slice b ys.length kb] 42)).alloc (.cells #[.slice none 0 0] 42)) 42 (.slice none 0 0)
  simp only [World.size_alloc] at e1
  exact e1
 clear hW
 go_loopw [8, 9] (fun p q wr => ∃ (i j : Nat) (pre : List T) (v : Value), p = .int .i64 i ∧ q = .int .i64 j ∧ i ≤ xs.length ∧ j ≤ ys.length ∧ Sofar k xs ys i j pre ∧ Below w.heap.size w wr ∧ w.heap.size + 4 ≤ wr.heap.size ∧ Boxed wr w.heap.size 42 (.slice a xs.length ka) ∧ Boxed wr (w.heap.size + 1) 42 (.slice b ys.length kb) ∧ Boxed wr (w.heap.size + 1 + 1) 42 (.slice none 0 0) ∧ Boxed wr (w.heap.size + 1 + 1 + 1) 42 v ∧ wr.ownsRow w.heap.size 87 2 v pre.length (cells pre))
  (fun p q wr => (xs.length - (intOf p).toNat) + (ys.length - (intOf q).toNat))
 case atStart => exact ⟨0, 0, [], _, rfl, rfl, Nat.zero_le _, Nat.zero_le _, Sofar.start k xs ys, bW, zW, cA, cB, cR, cO, World.ownsRow_nil _ _ _ _⟩
 case round =>
  obtain ⟨i, j, pre, v, rfl, rfl, hi, hj, hs, be, hz, bA, bB, bR, bO, hrow⟩ := hrel
  have ca := bA.cell
  have cb := bB.cell
  have t1r := t1.keep be hw1
  have t2r := t2.keep be hw2
  have hc0 : w.heap.size < wr.heap.size := by omega
  have hc1 : w.heap.size + 1 < wr.heap.size := by omega
  by_cases hA : i < xs.length
  ·go_upto_block 2 with fail
   go_cut [8, 9, 10] (fun s8 s9 s10 wx => Cut1 k xs ys i j wr s8 s9 s10 wx)
   case rest =>
    obtain ⟨i', j', g, t, rfl, rfl, rfl, d0, d1, hnx, hi', hj', hm, be2⟩ := hcut
    have be3 := be.trans (be2.mono be.size)
    have z3 := be2.size
    have bA' := bA.kept (grown_of_below be2) (fun h => by cases h)
    have bB' := bB.kept (grown_of_below be2) (fun h => by cases h)
    have bR' := bR.kept (grown_of_below be2) (fun h => by cases h)
    have bO' := bO.kept (grown_of_below be2) (fun h => by cases h)
    have row' := row_keep hrow be2
    have hlen := hs.len
    obtain ⟨tv, tk⟩ := t
    simp only at d0 d1
    clear bA bB bR bO hrow ca cb
    by_cases h0 : tk = 0
    ·have hmi := Lib.hid (hs.miss hnx h0)
     have hb0 : (tk != 0) = false := by simp [h0]
     clear h0 hnx
     go_wp2_with fail
     go_roundw
     case rel => exact ⟨i', j', pre, v, rfl, rfl, hi', hj', hmi.out, be3, by omega, bA', bB', bR', bO', row'⟩
     case measure => simp [intOf]; omega
    ·have hlt := hs.lt hnx h0
     have hmi := Lib.hid (hs.hit hnx h0)
     have hb0 : (tk != 0) = true := by simp [h0]
     have hO := bO'.cell
     have lg : g < wc.heap.size := World.block_lt_of_cell? wc _ d0
     clear h0 hnx
     go_wp2_with (at_builtin; refine wpList_append_own _ rfl _ _ 40 rfl w.heap.size 87 i0 (.agg #[.int .i64 0, .int .i64 0]) 2 16 Tryz.underlying40 hi0 hz0 hz1 hz2 rfl (by decide) _ _ _ rfl (row'.alloc _) ⟨wc.heap.size, 0, none⟩ 1 1 [.int .i64 tv, .int .i64 tk] rfl rfl (cells_two_new _ _ _ _) (by simp [Value.oneCell']) (by unfold maxLen; omega) (by omega) (by simp; omega) ?_; intro v' w5 hown' hgrow _; obtain ⟨g', cap', rfl⟩ := ownsRow_succ hown'; obtain ⟨hv1, hv2, hr2, hk2, hb2⟩ := bO'.appended (by decide) row' (by omega) (by omega) hown' hgrow; have hc1 := hv1.cell; have hf1 := hv1.frozen)
     have bA2 := box_appended (x := .slice (some ⟨g', 0, none⟩) (pre.length + 1) cap') (B := w.heap.size + 1 + 1 + 1) bA' (by decide) row' hgrow (by omega)
     have bB2 := box_appended (x := .slice (some ⟨g', 0, none⟩) (pre.length + 1) cap') (B := w.heap.size + 1 + 1 + 1) bB' (by decide) row' hgrow (by omega)
     have bR2 := box_appended (x := .slice (some ⟨g', 0, none⟩) (pre.length + 1) cap') (B := w.heap.size + 1 + 1 + 1) bR' (by decide) row' hgrow (by omega)
     have hsz := hb2.size
     go_roundw
     case rel => exact ⟨i', j', pre ++ [(tv, tk)], _, rfl, rfl, hi', hj', hmi.out, be3.trans hb2, by omega, bA2, bB2, bR2, hv2, by rw [cells_append]; simpa [cells] using hr2⟩
     case measure => simp [intOf]; omega
   case first =>
    obtain ⟨b1, f1, x1, y1, ea, p1, q1, c1, d1, u1, v1, v2⟩ := t1r.at hA
    obtain rfl := ea
    have s1 : b1 < wr.heap.size := World.block_lt_of_cell? wr _ c1
    obtain ⟨g3, g4⟩ := hx.at u1
    have hAf : decide (xs.length ≤ i) = false := decide_eq_false (by omega)
    by_cases hB : j < ys.length
    ·obtain ⟨b2, f2, x2, y2, eb, p2, q2, c2, d2, u2, v3, v4⟩ := t2r.at hB
     obtain rfl := eb
     have s2 : b2 < wr.heap.size := World.block_lt_of_cell? wr _ c2
     obtain ⟨g7, g8⟩ := hy.at u2
     have hBf : decide (ys.length ≤ j) = false := decide_eq_false (by omega)
     rcases Int.lt_trichotomy x1 x2 with hlt | heq | hgt
     ·have hd : decide (x1 < x2) = true := decide_eq_true hlt
      have hnx := Lib.hid (next_lt (k := k) u1 u2 hlt)
      clear u1 u2 hlt
      go_wp2_with fail
      go_quiet (fail)
      go_wp2_with fail
      go_meet
      case rel => exact ⟨i + 1, j, wr.heap.size, (x1, y1), by go_num, rfl, rfl, by go_simp, by go_simp, hnx.out, by omega, hj, by omega, by (repeat (first | with_reducible exact Below.refl _ _ | with_reducible assumption | with_reducible refine Below.drew ?_ | with_reducible refine bdrewN ?_ _ | ((with_reducible refine balloc ?_ ?_ _); (focus (first | with_reducible exact Nat.le_refl _ | (simp; done) | omega | (simp; omega) | exact Nat.le_refl _))) | ((with_reducible refine bset ?_ ?_ _); (focus (first | with_reducible exact Nat.le_refl _ | (simp; done) | omega | (simp; omega) | exact Nat.le_refl _)))))⟩
     ·have hd : decide (x1 < x2) = false := decide_eq_false (by omega)
      have hd2 : decide (x2 < x1) = false := decide_eq_false (by omega)
      have hnx := Lib.hid (next_eq (k := k) u1 u2 heq)
      rw [show pl (x1, y1) (tm k (x2, y2)) = (x1, (y1 + k * y2) % 2147483647) from by simp [pl, tm, Int.mul_comm]] at hnx
      have em := em_bd (k * y2)
      clear u1 u2 heq
      go_wp2_with fail
      go_quiet (fail)
      go_wp2_with fail
      go_quiet (fail)
      go_wp2_with fail
      generalize hz1' : World.drewN _ _ = wz
      have bz : Below wr.heap.size wr wz := by rw [← hz1']; (repeat (first | with_reducible exact Below.refl _ _ | with_reducible assumption | with_reducible refine Below.drew ?_ | with_reducible refine bdrewN ?_ _ | ((with_reducible refine balloc ?_ ?_ _); (focus (first | with_reducible exact Nat.le_refl _ | (simp; done) | omega | (simp; omega) | exact Nat.le_refl _))) | ((with_reducible refine bset ?_ ?_ _); (focus (first | with_reducible exact Nat.le_refl _ | (simp; done) | omega | (simp; omega) | exact Nat.le_refl _)))))
      have zz : wr.heap.size + 1 ≤ wz.heap.size := by rw [← hz1']; simp
      have ca' := cell_keep bz ca
      have cb' := cell_keep bz cb
      have c1' := cell_keep bz c1
      have d1' := cell_keep bz d1
      have c2' := cell_keep bz c2
      have d2' := cell_keep bz d2
      have hg0 : wz.cell? ⟨wr.heap.size, 0, none⟩ = some (.int .i64 0) := by rw [← hz1']; simp
      have hg1 : wz.cell? ⟨wr.heap.size, 1, none⟩ = some (.int .i64 0) := by rw [← hz1']; simp
      have fg0 : wz.frozen? ⟨wr.heap.size, 0, none⟩ = false := by rw [← hz1']; simp
      have fg1 : wz.frozen? ⟨wr.heap.size, 1, none⟩ = false := by rw [← hz1']; simp
      clear hz1' ca cb c2 d2
      go_region_held3 (fun w' => w'.cell? ⟨w.heap.size, 0, none⟩ = some (.slice (some ⟨b1, f1, none⟩) xs.length ka) ∧ w'.cell? ⟨b1, f1 + i * 2, none⟩ = some (.int .i64 x1) ∧ w'.cell? ⟨b1, f1 + i * 2 + 1, none⟩ = some (.int .i64 y1) ∧ w'.cell? ⟨w.heap.size + 1, 0, none⟩ = some (.slice (some ⟨b2, f2, none⟩) ys.length kb) ∧ w'.cell? ⟨b2, f2 + j * 2, none⟩ = some (.int .i64 x2) ∧ w'.cell? ⟨b2, f2 + j * 2 + 1, none⟩ = some (.int .i64 y2))
       (first | exact ⟨ca', c1', d1', cb', c2', d2'⟩ | exact ⟨cell_set2 ca' (by omega), cell_set2 c1' (by omega), cell_set2 d1' (by omega), cell_set2 cb' (by omega), cell_set2 c2' (by omega), cell_set2 d2' (by omega)⟩)
       (first
        | (go_at_call 91; refine (l1mul_any k y2 _ k0 k1 (by omega) g8).mono ?_; rintro e w' ⟨rfl, rfl⟩)
        | (go_at_call 92; refine (l1add_any y1 (k * y2 % 2147483647) _ (by omega) g4 em.1 em.2).mono ?_; rintro e w' ⟨rfl, rfl⟩))
      go_wp2_with fail
      go_meet
      case rel => exact ⟨i + 1, j + 1, wr.heap.size, (x1, (y1 + k * y2) % 2147483647), by go_num, by go_num, rfl, (cell_one2 hg0 hg1).1, (cell_one2 hg0 hg1).2, hnx.out, by omega, by omega, by omega, by (repeat (first | with_reducible exact Below.refl _ _ | with_reducible assumption | with_reducible refine Below.drew ?_ | with_reducible refine bdrewN ?_ _ | ((with_reducible refine balloc ?_ ?_ _); (focus (first | with_reducible exact Nat.le_refl _ | (simp; done) | omega | (simp; omega) | exact Nat.le_refl _))) | ((with_reducible refine bset ?_ ?_ _); (focus (first | with_reducible exact Nat.le_refl _ | (simp; done) | omega | (simp; omega) | exact Nat.le_refl _)))))⟩
     ·have hd : decide (x1 < x2) = false := decide_eq_false (by omega)
      have hd2 : decide (x2 < x1) = true := decide_eq_true hgt
      have hnx := Lib.hid (next_gt (k := k) u1 u2 hgt)
      rw [show tm k (x2, y2) = (x2, k * y2 % 2147483647) from by simp [tm, Int.mul_comm]] at hnx
      clear u1 u2 hgt
      go_wp2_with fail
      go_quiet (fail)
      go_wp2_with fail
      go_quiet (fail)
      go_wp2_with fail
      generalize hz1' : World.drewN _ _ = wz
      have bz : Below wr.heap.size wr wz := by rw [← hz1']; (repeat (first | with_reducible exact Below.refl _ _ | with_reducible assumption | with_reducible refine Below.drew ?_ | with_reducible refine bdrewN ?_ _ | ((with_reducible refine balloc ?_ ?_ _); (focus (first | with_reducible exact Nat.le_refl _ | (simp; done) | omega | (simp; omega) | exact Nat.le_refl _))) | ((with_reducible refine bset ?_ ?_ _); (focus (first | with_reducible exact Nat.le_refl _ | (simp; done) | omega | (simp; omega) | exact Nat.le_refl _)))))
      have zz : wr.heap.size + 1 ≤ wz.heap.size := by rw [← hz1']; simp
      have ca' := cell_keep bz ca
      have cb' := cell_keep bz cb
      have c2' := cell_keep bz c2
      have d2' := cell_keep bz d2
      have hg0 : wz.cell? ⟨wr.heap.size, 0, none⟩ = some (.int .i64 0) := by rw [← hz1']; simp
      have hg1 : wz.cell? ⟨wr.heap.size, 1, none⟩ = some (.int .i64 0) := by rw [← hz1']; simp
      have fg0 : wz.frozen? ⟨wr.heap.size, 0, none⟩ = false := by rw [← hz1']; simp
      have fg1 : wz.frozen? ⟨wr.heap.size, 1, none⟩ = false := by rw [← hz1']; simp
      clear hz1' ca cb c2 d2
      go_region_held3 (fun w' => w'.cell? ⟨w.heap.size + 1, 0, none⟩ = some (.slice (some ⟨b2, f2, none⟩) ys.length kb) ∧ w'.cell? ⟨b2, f2 + j * 2, none⟩ = some (.int .i64 x2) ∧ w'.cell? ⟨b2, f2 + j * 2 + 1, none⟩ = some (.int .i64 y2))
       (first | exact ⟨cb', c2', d2'⟩ | exact ⟨cell_set2 cb' (by omega), cell_set2 c2' (by omega), cell_set2 d2' (by omega)⟩)
       (first
        | (go_at_call 91; refine (l1mul_any k y2 _ k0 k1 (by omega) g8).mono ?_; rintro e w' ⟨rfl, rfl⟩))
      go_wp2_with fail
      have bm := bz
      go_meet
      case rel => exact ⟨i, j + 1, wr.heap.size, (x2, k * y2 % 2147483647), rfl, by go_num, rfl, (cell_one2 hg0 hg1).1, (cell_one2 hg0 hg1).2, hnx.out, by omega, by omega, by omega, by (repeat (first | with_reducible exact Below.refl _ _ | with_reducible assumption | with_reducible refine Below.drew ?_ | with_reducible refine bdrewN ?_ _ | ((with_reducible refine balloc ?_ ?_ _); (focus (first | with_reducible exact Nat.le_refl _ | (simp; done) | omega | (simp; omega) | exact Nat.le_refl _))) | ((with_reducible refine bset ?_ ?_ _); (focus (first | with_reducible exact Nat.le_refl _ | (simp; done) | omega | (simp; omega) | exact Nat.le_refl _)))))⟩
    ·obtain rfl : j = ys.length := by omega
     have hnx := Lib.hid (next_a (k := k) (ys := ys) (j := ys.length) u1 (Nat.le_refl _))
     clear u1 hB
     go_wp2_with fail
     go_quiet (fail)
     go_wp2_with fail
     go_meet
     case rel => exact ⟨i + 1, ys.length, wr.heap.size, (x1, y1), by go_num, rfl, rfl, by go_simp, by go_simp, hnx.out, by omega, Nat.le_refl _, by omega, by (repeat (first | with_reducible exact Below.refl _ _ | with_reducible assumption | with_reducible refine Below.drew ?_ | with_reducible refine bdrewN ?_ _ | ((with_reducible refine balloc ?_ ?_ _); (focus (first | with_reducible exact Nat.le_refl _ | (simp; done) | omega | (simp; omega) | exact Nat.le_refl _))) | ((with_reducible refine bset ?_ ?_ _); (focus (first | with_reducible exact Nat.le_refl _ | (simp; done) | omega | (simp; omega) | exact Nat.le_refl _)))))⟩
  ·obtain rfl : i = xs.length := by omega
   clear hA
   by_cases hB : j < ys.length
   ·go_upto_block 2 with fail
    go_cut [8, 9, 10] (fun s8 s9 s10 wx => Cut1 k xs ys xs.length j wr s8 s9 s10 wx)
    case rest =>
     obtain ⟨i', j', g, t, rfl, rfl, rfl, d0, d1, hnx, hi', hj', hm, be2⟩ := hcut
     have be3 := be.trans (be2.mono be.size)
     have z3 := be2.size
     have bA' := bA.kept (grown_of_below be2) (fun h => by cases h)
     have bB' := bB.kept (grown_of_below be2) (fun h => by cases h)
     have bR' := bR.kept (grown_of_below be2) (fun h => by cases h)
     have bO' := bO.kept (grown_of_below be2) (fun h => by cases h)
     have row' := row_keep hrow be2
     have hlen := hs.len
     obtain ⟨tv, tk⟩ := t
     simp only at d0 d1
     clear bA bB bR bO hrow ca cb
     by_cases h0 : tk = 0
     ·have hmi := Lib.hid (hs.miss hnx h0)
      have hb0 : (tk != 0) = false := by simp [h0]
      clear h0 hnx
      go_wp2_with fail
      go_roundw
      case rel => exact ⟨i', j', pre, v, rfl, rfl, hi', hj', hmi.out, be3, by omega, bA', bB', bR', bO', row'⟩
      case measure => simp [intOf]; omega
     ·have hlt := hs.lt hnx h0
      have hmi := Lib.hid (hs.hit hnx h0)
      have hb0 : (tk != 0) = true := by simp [h0]
      have hO := bO'.cell
      have lg : g < wc.heap.size := World.block_lt_of_cell? wc _ d0
      clear h0 hnx
      go_wp2_with (at_builtin; refine wpList_append_own _ rfl _ _ 40 rfl w.heap.size 87 i0 (.agg #[.int .i64 0, .int .i64 0]) 2 16 Tryz.underlying40 hi0 hz0 hz1 hz2 rfl (by decide) _ _ _ rfl (row'.alloc _) ⟨wc.heap.size, 0, none⟩ 1 1 [.int .i64 tv, .int .i64 tk] rfl rfl (cells_two_new _ _ _ _) (by simp [Value.oneCell']) (by unfold maxLen; omega) (by omega) (by simp; omega) ?_; intro v' w5 hown' hgrow _; obtain ⟨g', cap', rfl⟩ := ownsRow_succ hown'; obtain ⟨hv1, hv2, hr2, hk2, hb2⟩ := bO'.appended (by decide) row' (by omega) (by omega) hown' hgrow; have hc1 := hv1.cell; have hf1 := hv1.frozen)
      have bA2 := box_appended (x := .slice (some ⟨g', 0, none⟩) (pre.length + 1) cap') (B := w.heap.size + 1 + 1 + 1) bA' (by decide) row' hgrow (by omega)
      have bB2 := box_appended (x := .slice (some ⟨g', 0, none⟩) (pre.length + 1) cap') (B := w.heap.size + 1 + 1 + 1) bB' (by decide) row' hgrow (by omega)
      have bR2 := box_appended (x := .slice (some ⟨g', 0, none⟩) (pre.length + 1) cap') (B := w.heap.size + 1 + 1 + 1) bR' (by decide) row' hgrow (by omega)
      have hsz := hb2.size
      go_roundw
      case rel => exact ⟨i', j', pre ++ [(tv, tk)], _, rfl, rfl, hi', hj', hmi.out, be3.trans hb2, by omega, bA2, bB2, bR2, hv2, by rw [cells_append]; simpa [cells] using hr2⟩
      case measure => simp [intOf]; omega
    case first =>
     obtain ⟨b2, f2, x2, y2, eb, p2, q2, c2, d2, u2, v3, v4⟩ := t2r.at hB
     obtain rfl := eb
     have s2 : b2 < wr.heap.size := World.block_lt_of_cell? wr _ c2
     obtain ⟨g7, g8⟩ := hy.at u2
     have hBf : decide (ys.length ≤ j) = false := decide_eq_false (by omega)
     have hnx := Lib.hid (next_b (k := k) (xs := xs) (i := xs.length) u2 (Nat.le_refl _))
     rw [show tm k (x2, y2) = (x2, k * y2 % 2147483647) from by simp [tm, Int.mul_comm]] at hnx
     clear u2
     go_wp2_with fail
     go_quiet (fail)
     go_wp2_with fail
     go_quiet (fail)
     go_wp2_with fail
     generalize hz1' : World.drewN _ _ = wz
     have bz : Below wr.heap.size wr wz := by rw [← hz1']; (repeat (first | with_reducible exact Below.refl _ _ | with_reducible assumption | with_reducible refine Below.drew ?_ | with_reducible refine bdrewN ?_ _ | ((with_reducible refine balloc ?_ ?_ _); (focus (first | with_reducible exact Nat.le_refl _ | (simp; done) | omega | (simp; omega) | exact Nat.le_refl _))) | ((with_reducible refine bset ?_ ?_ _); (focus (first | with_reducible exact Nat.le_refl _ | (simp; done) | omega | (simp; omega) | exact Nat.le_refl _)))))
     have zz : wr.heap.size + 1 ≤ wz.heap.size := by rw [← hz1']; simp
     have ca' := cell_keep bz ca
     have cb' := cell_keep bz cb
     have c2' := cell_keep bz c2
     have d2' := cell_keep bz d2
     have hg0 : wz.cell? ⟨wr.heap.size, 0, none⟩ = some (.int .i64 0) := by rw [← hz1']; simp
     have hg1 : wz.cell? ⟨wr.heap.size, 1, none⟩ = some (.int .i64 0) := by rw [← hz1']; simp
     have fg0 : wz.frozen? ⟨wr.heap.size, 0, none⟩ = false := by rw [← hz1']; simp
     have fg1 : wz.frozen? ⟨wr.heap.size, 1, none⟩ = false := by rw [← hz1']; simp
     clear hz1' ca cb c2 d2
     go_region_held3 (fun w' => w'.cell? ⟨w.heap.size + 1, 0, none⟩ = some (.slice (some ⟨b2, f2, none⟩) ys.length kb) ∧ w'.cell? ⟨b2, f2 + j * 2, none⟩ = some (.int .i64 x2) ∧ w'.cell? ⟨b2, f2 + j * 2 + 1, none⟩ = some (.int .i64 y2))
      (first | exact ⟨cb', c2', d2'⟩ | exact ⟨cell_set2 cb' (by omega), cell_set2 c2' (by omega), cell_set2 d2' (by omega)⟩)
      (first
       | (go_at_call 91; refine (l1mul_any k y2 _ k0 k1 (by omega) g8).mono ?_; rintro e w' ⟨rfl, rfl⟩))
     go_wp2_with fail
     have bm := bz
     go_meet
     case rel => exact ⟨xs.length, j + 1, wr.heap.size, (x2, k * y2 % 2147483647), rfl, by go_num, rfl, (cell_one2 hg0 hg1).1, (cell_one2 hg0 hg1).2, hnx.out, by omega, by omega, by omega, by (repeat (first | with_reducible exact Below.refl _ _ | with_reducible assumption | with_reducible refine Below.drew ?_ | with_reducible refine bdrewN ?_ _ | ((with_reducible refine balloc ?_ ?_ _); (focus (first | with_reducible exact Nat.le_refl _ | (simp; done) | omega | (simp; omega) | exact Nat.le_refl _))) | ((with_reducible refine bset ?_ ?_ _); (focus (first | with_reducible exact Nat.le_refl _ | (simp; done) | omega | (simp; omega) | exact Nat.le_refl _)))))⟩
   ·obtain rfl : j = ys.length := by omega
    clear hB
    have hst := hs.stop (by omega) (by omega)
    subst hst
    have ht := Terms.own hrow fM.out
    obtain ⟨g, cg, rfl, lg, bg⟩ := ht.shape
    have hO := bO.cell
    have hRc := bR.cell
    have hRf := bR.frozen
    have r2 := hrow.kept (grownBy_setCell' wr (w.heap.size + 1 + 1) (.slice g (mrg k xs ys).length cg)) (.inr (bR.not_row (by decide) hrow).symm)
    have t5 := Terms.own r2 fM.out
    clear r2
    go_wp2_with fail
    exact bodyPost_ret (v := .agg #[.slice g (mrg k xs ys).length cg]) (by simp [results, Tryz.results76, go_sem, hRc]) rfl ⟨_, rfl, by (repeat (first | with_reducible exact Below.refl _ _ | with_reducible assumption | with_reducible refine Below.drew ?_ | with_reducible refine bdrewN ?_ _ | ((with_reducible refine balloc ?_ ?_ _); (focus (first | with_reducible exact Nat.le_refl _ | (simp; done) | omega | (simp; omega) | exact Nat.le_refl _))) | ((with_reducible refine bset ?_ ?_ _); (focus (first | with_reducible exact Nat.le_refl _ | (simp; done) | omega | (simp; omega) | exact Nat.le_refl _))))), t5⟩
theorem l2add_any (o1 l1 h1 va xs) (o2 l2 h2 vb ys) (k : Int) (w : World) (t1 : Terms o1 l1 h1 w va xs) (hw1 : h1 ≤ w.heap.size) (t2 : Terms o2 l2 h2 w vb ys) (hw2 : h2 ≤ w.heap.size) (k0 : 0 ≤ k) (k1 : k < 2147483647) (hx : linOk xs = true) (hy : linOk ys = true) :
  Calls Tryz.prog 76 #[.agg #[va], .agg #[vb], .int .i64 k] w fun e w' => ∃ u, e = .returned (.agg #[u]) ∧ Below w.heap.size w w' ∧ Terms true w.heap.size w'.heap.size w' u (mrg k xs ys) :=
 l2add_wide o1 l1 h1 va xs o2 l2 h2 vb ys k w t1 hw1 t2 hw2 k0 k1 (.of_ok hx) (.of_ok hy) (by have := linOk_length hx; omega) (by have := linOk_length hy; omega)
end Go.Proofs.YtcenijdaacbgpaaGreat.L

/- The model's differences of combinations. -/
namespace Go.Proofs.YtcenijdaacbgpaaGreat.L
open Go.RowKit Go.Shelf Go.Proofs.YtcenijdaacbgpaaGreat.S
set_option linter.unusedVariables false
set_option linter.unusedSimpArgs false

set_option linter.unusedSimpArgs false


set_option maxRecDepth 100000 in
set_option maxHeartbeats 1600000 in
theorem l2sub_wide (o1 l1 h1 va xs) (o2 l2 h2 vb ys) (w : World) (t1 : Terms o1 l1 h1 w va xs) (hw1 : h1 ≤ w.heap.size) (t2 : Terms o2 l2 h2 w vb ys) (hw2 : h2 ≤ w.heap.size) (hx : KIn xs) (hy : KIn ys) (nx : xs.length ≤ 1048576) (ny : ys.length ≤ 1048576) :
  Calls Tryz.prog 74 #[.agg #[va], .agg #[vb]] w fun e w' => ∃ u, e = .returned (.agg #[u]) ∧ Below w.heap.size w w' ∧ Terms true w.heap.size w'.heap.size w' u (mrg 2147483646 xs ys) := by
 obtain ⟨a, ka, rfl, la, ba⟩ := t1.shape
 obtain ⟨b, kb, rfl, lb, bb⟩ := t2.shape
 go_enter Tryz.func74, Tryz.ntmps74
 go_wp2_with fail
 refine name_call fun w1 hw1' => ?_
 have b1 : Below w.heap.size w w1 := by rw [hw1']; (repeat (with_reducible first | exact bR _ _ | assumption | refine bD ?_ | refine bN ?_ _ | refine bA ?_ _ | refine bS ?_ _))
 have z1 : w.heap.size + 3 ≤ w1.heap.size := by rw [hw1']; simp
 have cR1 : w1.cell? ⟨w.heap.size + 1 + 1, 0, none⟩ = some (.slice none 0 0) := by rw [hw1']; go_simp
 have fR1 : w1.frozen? ⟨w.heap.size + 1 + 1, 0, none⟩ = false := by rw [hw1']; go_simp
 have t1' := t1.keep b1 hw1
 have t2' := t2.keep b1 hw2
 clear hw1'
 refine (l2add_wide _ _ _ _ xs _ _ _ _ ys 2147483646 w1 t1' (by omega) t2' (by omega) (by omega) (by omega) hx hy nx ny).mono ?_; rintro e w2 ⟨u, rfl, f2, tq⟩
 obtain ⟨g, kg, rfl, lg, bg⟩ := tq.shape
 have b2 := b1.trans (f2.mono (by omega))
 have z2 := f2.size
 have cR2 := cell_keep f2 cR1
 have fR2 := (f2.frozen (p := ⟨w.heap.size + 1 + 1, 0, none⟩) (by simp; omega)).trans fR1
 go_wp2_with fail
 exact bodyPost_ret (v := .agg #[.slice g (mrg 2147483646 xs ys).length kg]) (by simp [results, Tryz.results74, go_sem, cR2]) rfl ⟨_, rfl, by (repeat (with_reducible first | exact bR _ _ | assumption | refine bD ?_ | refine bN ?_ _ | refine bA ?_ _ | refine bS ?_ _)), tq.stored (by omega) (by omega)⟩

theorem l2sub_any (o1 l1 h1 va xs) (o2 l2 h2 vb ys) (w : World) (t1 : Terms o1 l1 h1 w va xs) (hw1 : h1 ≤ w.heap.size) (t2 : Terms o2 l2 h2 w vb ys) (hw2 : h2 ≤ w.heap.size) (hx : linOk xs = true) (hy : linOk ys = true) :
  Calls Tryz.prog 74 #[.agg #[va], .agg #[vb]] w fun e w' => ∃ u, e = .returned (.agg #[u]) ∧ Below w.heap.size w w' ∧ Terms true w.heap.size w'.heap.size w' u (mrg 2147483646 xs ys) :=
 l2sub_wide o1 l1 h1 va xs o2 l2 h2 vb ys w t1 hw1 t2 hw2 (.of_ok hx) (.of_ok hy) (by have := linOk_length hx; omega) (by have := linOk_length hy; omega)

end Go.Proofs.YtcenijdaacbgpaaGreat.L
