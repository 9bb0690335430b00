/- Slices of combinations, hints, constraints, and systems that read alike are told equal. -/
import Derived.Test.YteekpdlkdpkegaaSysR
namespace Go.Proofs.Yteekpdlkdpkegaa.L
open Go.RowKit Go.Proofs.Yteekpdlkdpkegaa.S
set_option linter.unusedVariables false
set_option linter.unusedSimpArgs false

theorem eqLin_same (o1 l1 h1 v o2 l2 h2 u) (ts : List T) (w : World) (t1 : Terms o1 l1 h1 w v ts) (t2 : Terms o2 l2 h2 w u ts) (hw1 : h1 ≤ w.heap.size) (hw2 : h2 ≤ w.heap.size) :
    Calls Try.prog 20 #[.agg #[v], .agg #[u]] w fun e w' => e = .returned (.bool true) ∧ Below w.heap.size w w' := by
  have := eqLin_any o1 o2 l1 h1 l2 h2 v u ts ts w t1 t2 hw1 hw2
  rwa [dec_self] at this

set_option maxRecDepth 100000 in
set_option maxHeartbeats 1600000 in
theorem eqLinS_same (o1 l1 h1 v o2 l2 h2 u) (xs : List (List T)) (w : World) (t1 : LinS o1 l1 h1 w v xs) (t2 : LinS o2 l2 h2 w u xs) (hw1 : h1 ≤ w.heap.size) (hw2 : h2 ≤ w.heap.size) :
    Calls Try.prog 31 #[v, u] w fun e w' => e = .returned (.bool true) ∧ Below w.heap.size w w' := by
  obtain ⟨a, ca, rfl, la, ba⟩ := t1.shape
  obtain ⟨b, cb, rfl, lb, bb⟩ := t2.shape
  go_enter Try.func31, Try.ntmps31
  go_wp2_with fail
  go_loopw [5] (fun i wr => ∃ k : Nat, k ≤ xs.length ∧ i = .int .i64 k ∧ Below w.heap.size w wr) (fun i _ => xs.length - (intOf i).toNat)
  case atStart => exact ⟨0, Nat.zero_le _, rfl, Below.refl _ _⟩
  case round =>
    obtain ⟨k, hk, rfl, be⟩ := hrel
    by_cases hlt : k < xs.length
    · have s1 := t1.keep be hw1
      have s2 := t2.keep be hw2
      obtain ⟨b1, f1, x, rfl, q1, m1, c1, d1⟩ := s1.at hlt
      obtain ⟨b2, f2, y, rfl, q2, m2, c2, d2⟩ := s2.at hlt
      obtain ⟨x, kx, rfl, lx, bx⟩ := d1.shape
      obtain ⟨y, ky, rfl, ly, by'⟩ := d2.shape
      have zb := be.size
      have dz : Below wr.heap.size wr wr.drew := (Below.refl _ _).drew
      have zd : wr.heap.size ≤ wr.drew.heap.size := Nat.le_refl _
      have ed1 := d1.keep dz (by omega)
      have ed2 := d2.keep dz (by omega)
      clear s1 s2
      go_wp2_with fail
      go_region_held3 (fun w' => w'.cell? ⟨b1, f1 + k, none⟩ = some (.slice x xs[k].length kx) ∧ w'.cell? ⟨b2, f2 + k, none⟩ = some (.slice y xs[k].length ky)) (first | exact ⟨c1, c2⟩ | exact ⟨cell_keep f c1, cell_keep f c2⟩)
        (first | (go_at_call 20; refine (eqLin_same o1 l1 h1 _ o2 l2 h2 _ xs[k] wr.drew ed1 ed2 (by omega) (by omega)).mono ?_; rintro e w2 ⟨rfl, f⟩))
      go_wp2_with fail
      go_roundw
      case rel => exact ⟨k + 1, by omega, by go_num, be.drew.trans (f.mono be.size)⟩
      case measure => simp [intOf]; omega
    · go_wp2_with fail
      go_ret
      exact ⟨rfl, be⟩

set_option maxRecDepth 100000 in
set_option maxHeartbeats 1600000 in
theorem eqHint_same (o1 l1 h1 va vb o2 l2 h2 ua ub) (x : HintC) (w : World) (pa : Terms o1 l1 h1 w va x.a) (qa : Terms o2 l2 h2 w ua x.a) (pb : Terms o1 l1 h1 w vb x.b) (qb : Terms o2 l2 h2 w ub x.b) (hw1 : h1 ≤ w.heap.size) (hw2 : h2 ≤ w.heap.size) :
    Calls Try.prog 123 #[.agg #[.int .i64 x.kind, va, vb, .int .i64 x.k], .agg #[.int .i64 x.kind, ua, ub, .int .i64 x.k]] w fun e w' => e = .returned (.bool true) ∧ Below w.heap.size w w' := by
  obtain ⟨aa, ka, rfl, laa, baa⟩ := pa.shape
  obtain ⟨ca, ma, rfl, lca, bca⟩ := qa.shape
  obtain ⟨ab, kb, rfl, lab, bab⟩ := pb.shape
  obtain ⟨cb, mb, rfl, lcb, bcb⟩ := qb.shape
  go_enter Try.func123, Try.ntmps123
  go_wp2_with fail
  refine name_call fun w1 hw1 => ?_
  have b1 : Below w.heap.size w w1 := by rw [hw1]; (repeat (first | with_reducible exact Below.refl _ _ | with_reducible assumption | with_reducible refine Below.drew ?_ | with_reducible refine bdrewN ?_ _ | ((with_reducible refine balloc ?_ ?_ _); (focus (first | with_reducible exact Nat.le_refl _ | (simp; done) | omega | (simp; omega) | exact Nat.le_refl _))) | ((with_reducible refine bset ?_ ?_ _); (focus (first | with_reducible exact Nat.le_refl _ | (simp; done) | omega | (simp; omega) | exact Nat.le_refl _)))))
  have z1 : w.heap.size + 2 ≤ w1.heap.size := by rw [hw1]; simp
  have e1 : Below w.heap.size w w1 := by rw [hw1]; (repeat (first | with_reducible exact Below.refl _ _ | with_reducible assumption | with_reducible refine Below.drew ?_ | with_reducible refine bdrewN ?_ _ | ((with_reducible refine balloc ?_ ?_ _); (focus (first | with_reducible exact Nat.le_refl _ | (simp; done) | omega | (simp; omega) | exact Nat.le_refl _))) | ((with_reducible refine bset ?_ ?_ _); (focus (first | with_reducible exact Nat.le_refl _ | (simp; done) | omega | (simp; omega) | exact Nat.le_refl _)))))
  have cp01 : w1.cell? ⟨w.heap.size, 0, none⟩ = some (.int .i64 x.kind) := by rw [hw1]; first | (simp; done) | go_simp
  have cq01 : w1.cell? ⟨w.heap.size + 1, 0, none⟩ = some (.int .i64 x.kind) := by rw [hw1]; first | (simp; done) | go_simp
  have cp11 : w1.cell? ⟨w.heap.size, 1, none⟩ = some (.slice aa x.a.length ka) := by rw [hw1]; first | (simp; done) | go_simp
  have cq11 : w1.cell? ⟨w.heap.size + 1, 1, none⟩ = some (.slice ca x.a.length ma) := by rw [hw1]; first | (simp; done) | go_simp
  have cp21 : w1.cell? ⟨w.heap.size, 2, none⟩ = some (.slice ab x.b.length kb) := by rw [hw1]; first | (simp; done) | go_simp
  have cq21 : w1.cell? ⟨w.heap.size + 1, 2, none⟩ = some (.slice cb x.b.length mb) := by rw [hw1]; first | (simp; done) | go_simp
  have cp31 : w1.cell? ⟨w.heap.size, 3, none⟩ = some (.int .i64 x.k) := by rw [hw1]; first | (simp; done) | go_simp
  have cq31 : w1.cell? ⟨w.heap.size + 1, 3, none⟩ = some (.int .i64 x.k) := by rw [hw1]; first | (simp; done) | go_simp
  have tPa1 := pa.keep e1 (by omega)
  have tQa1 := qa.keep e1 (by omega)
  have tPb1 := pb.keep e1 (by omega)
  have tQb1 := qb.keep e1 (by omega)
  clear hw1
  refine (eqLin_same o1 l1 h1 _ o2 l2 h2 _ x.a _ tPa1 tQa1 (by omega) (by omega)).mono ?_; rintro e w2 ⟨rfl, f2⟩
  have b2 := b1.trans (f2.mono (by omega))
  have z2 := f2.size
  have cp02 := cell_keep f2 cp01
  have cq02 := cell_keep f2 cq01
  have cp12 := cell_keep f2 cp11
  have cq12 := cell_keep f2 cq11
  have cp22 := cell_keep f2 cp21
  have cq22 := cell_keep f2 cq21
  have cp32 := cell_keep f2 cp31
  have cq32 := cell_keep f2 cq31
  have tPa2 := tPa1.keep f2 (by omega)
  have tQa2 := tQa1.keep f2 (by omega)
  have tPb2 := tPb1.keep f2 (by omega)
  have tQb2 := tQb1.keep f2 (by omega)
  clear cp01 cq01 cp11 cq11 cp21 cq21 cp31 cq31 tPa1 tQa1 tPb1 tQb1
  have lcp02 : w.heap.size < w2.heap.size := World.block_lt_of_cell? _ _ cp02
  have lcq02 : w.heap.size + 1 < w2.heap.size := World.block_lt_of_cell? _ _ cq02
  go_wp2_with fail
  refine name_call fun w3 hw3 => ?_
  have b3 : Below w.heap.size w w3 := by rw [hw3]; (repeat (first | with_reducible exact Below.refl _ _ | with_reducible assumption | with_reducible refine Below.drew ?_ | with_reducible refine bdrewN ?_ _ | ((with_reducible refine balloc ?_ ?_ _); (focus (first | with_reducible exact Nat.le_refl _ | (simp; done) | omega | (simp; omega) | exact Nat.le_refl _))) | ((with_reducible refine bset ?_ ?_ _); (focus (first | with_reducible exact Nat.le_refl _ | (simp; done) | omega | (simp; omega) | exact Nat.le_refl _)))))
  have z3 : w2.heap.size + 0 ≤ w3.heap.size := by rw [hw3]; simp
  have e3 : Below w2.heap.size w2 w3 := by rw [hw3]; (repeat (first | with_reducible exact Below.refl _ _ | with_reducible assumption | with_reducible refine Below.drew ?_ | with_reducible refine bdrewN ?_ _ | ((with_reducible refine balloc ?_ ?_ _); (focus (first | with_reducible exact Nat.le_refl _ | (simp; done) | omega | (simp; omega) | exact Nat.le_refl _))) | ((with_reducible refine bset ?_ ?_ _); (focus (first | with_reducible exact Nat.le_refl _ | (simp; done) | omega | (simp; omega) | exact Nat.le_refl _)))))
  have cp03 := cell_keep e3 cp02
  have cq03 := cell_keep e3 cq02
  have cp13 := cell_keep e3 cp12
  have cq13 := cell_keep e3 cq12
  have cp23 := cell_keep e3 cp22
  have cq23 := cell_keep e3 cq22
  have cp33 := cell_keep e3 cp32
  have cq33 := cell_keep e3 cq32
  have tPa3 := tPa2.keep e3 (by omega)
  have tQa3 := tQa2.keep e3 (by omega)
  have tPb3 := tPb2.keep e3 (by omega)
  have tQb3 := tQb2.keep e3 (by omega)
  clear hw3 lcp02 lcq02 cp02 cq02 cp12 cq12 cp22 cq22 cp32 cq32 tPa2 tQa2 tPb2 tQb2
  refine (eqLin_same o1 l1 h1 _ o2 l2 h2 _ x.b _ tPb3 tQb3 (by omega) (by omega)).mono ?_; rintro e w4 ⟨rfl, f4⟩
  have b4 := b3.trans (f4.mono (by omega))
  have z4 := f4.size
  have cp04 := cell_keep f4 cp03
  have cq04 := cell_keep f4 cq03
  have cp14 := cell_keep f4 cp13
  have cq14 := cell_keep f4 cq13
  have cp24 := cell_keep f4 cp23
  have cq24 := cell_keep f4 cq23
  have cp34 := cell_keep f4 cp33
  have cq34 := cell_keep f4 cq33
  have tPa4 := tPa3.keep f4 (by omega)
  have tQa4 := tQa3.keep f4 (by omega)
  have tPb4 := tPb3.keep f4 (by omega)
  have tQb4 := tQb3.keep f4 (by omega)
  clear cp03 cq03 cp13 cq13 cp23 cq23 cp33 cq33 tPa3 tQa3 tPb3 tQb3
  go_wp2_with fail
  go_ret
  exact ⟨rfl, b4⟩

set_option maxRecDepth 100000 in
set_option maxHeartbeats 1600000 in
theorem eqCon_same (o1 l1 h1 va vb vc o2 l2 h2 ua ub uc) (x : ConC) (w : World) (pa : Terms o1 l1 h1 w va x.a) (qa : Terms o2 l2 h2 w ua x.a) (pb : Terms o1 l1 h1 w vb x.b) (qb : Terms o2 l2 h2 w ub x.b) (pc : Terms o1 l1 h1 w vc x.c) (qc : Terms o2 l2 h2 w uc x.c) (hw1 : h1 ≤ w.heap.size) (hw2 : h2 ≤ w.heap.size) :
    Calls Try.prog 124 #[.agg #[va, vb, vc], .agg #[ua, ub, uc]] w fun e w' => e = .returned (.bool true) ∧ Below w.heap.size w w' := by
  obtain ⟨aa, ka, rfl, laa, baa⟩ := pa.shape
  obtain ⟨ca, ma, rfl, lca, bca⟩ := qa.shape
  obtain ⟨ab, kb, rfl, lab, bab⟩ := pb.shape
  obtain ⟨cb, mb, rfl, lcb, bcb⟩ := qb.shape
  obtain ⟨ac, kc, rfl, lac, bac⟩ := pc.shape
  obtain ⟨cc, mc, rfl, lcc, bcc⟩ := qc.shape
  go_enter Try.func124, Try.ntmps124
  go_wp2_with fail
  refine name_call fun w1 hw1 => ?_
  have b1 : Below w.heap.size w w1 := by rw [hw1]; (repeat (first | with_reducible exact Below.refl _ _ | with_reducible assumption | with_reducible refine Below.drew ?_ | with_reducible refine bdrewN ?_ _ | ((with_reducible refine balloc ?_ ?_ _); (focus (first | with_reducible exact Nat.le_refl _ | (simp; done) | omega | (simp; omega) | exact Nat.le_refl _))) | ((with_reducible refine bset ?_ ?_ _); (focus (first | with_reducible exact Nat.le_refl _ | (simp; done) | omega | (simp; omega) | exact Nat.le_refl _)))))
  have z1 : w.heap.size + 2 ≤ w1.heap.size := by rw [hw1]; simp
  have e1 : Below w.heap.size w w1 := by rw [hw1]; (repeat (first | with_reducible exact Below.refl _ _ | with_reducible assumption | with_reducible refine Below.drew ?_ | with_reducible refine bdrewN ?_ _ | ((with_reducible refine balloc ?_ ?_ _); (focus (first | with_reducible exact Nat.le_refl _ | (simp; done) | omega | (simp; omega) | exact Nat.le_refl _))) | ((with_reducible refine bset ?_ ?_ _); (focus (first | with_reducible exact Nat.le_refl _ | (simp; done) | omega | (simp; omega) | exact Nat.le_refl _)))))
  have cp01 : w1.cell? ⟨w.heap.size, 0, none⟩ = some (.slice aa x.a.length ka) := by rw [hw1]; first | (simp; done) | go_simp
  have cq01 : w1.cell? ⟨w.heap.size + 1, 0, none⟩ = some (.slice ca x.a.length ma) := by rw [hw1]; first | (simp; done) | go_simp
  have cp11 : w1.cell? ⟨w.heap.size, 1, none⟩ = some (.slice ab x.b.length kb) := by rw [hw1]; first | (simp; done) | go_simp
  have cq11 : w1.cell? ⟨w.heap.size + 1, 1, none⟩ = some (.slice cb x.b.length mb) := by rw [hw1]; first | (simp; done) | go_simp
  have cp21 : w1.cell? ⟨w.heap.size, 2, none⟩ = some (.slice ac x.c.length kc) := by rw [hw1]; first | (simp; done) | go_simp
  have cq21 : w1.cell? ⟨w.heap.size + 1, 2, none⟩ = some (.slice cc x.c.length mc) := by rw [hw1]; first | (simp; done) | go_simp
  have tPa1 := pa.keep e1 (by omega)
  have tQa1 := qa.keep e1 (by omega)
  have tPb1 := pb.keep e1 (by omega)
  have tQb1 := qb.keep e1 (by omega)
  have tPc1 := pc.keep e1 (by omega)
  have tQc1 := qc.keep e1 (by omega)
  clear hw1
  refine (eqLin_same o1 l1 h1 _ o2 l2 h2 _ x.a _ tPa1 tQa1 (by omega) (by omega)).mono ?_; rintro e w2 ⟨rfl, f2⟩
  have b2 := b1.trans (f2.mono (by omega))
  have z2 := f2.size
  have cp02 := cell_keep f2 cp01
  have cq02 := cell_keep f2 cq01
  have cp12 := cell_keep f2 cp11
  have cq12 := cell_keep f2 cq11
  have cp22 := cell_keep f2 cp21
  have cq22 := cell_keep f2 cq21
  have tPa2 := tPa1.keep f2 (by omega)
  have tQa2 := tQa1.keep f2 (by omega)
  have tPb2 := tPb1.keep f2 (by omega)
  have tQb2 := tQb1.keep f2 (by omega)
  have tPc2 := tPc1.keep f2 (by omega)
  have tQc2 := tQc1.keep f2 (by omega)
  clear cp01 cq01 cp11 cq11 cp21 cq21 tPa1 tQa1 tPb1 tQb1 tPc1 tQc1
  have lcp02 : w.heap.size < w2.heap.size := World.block_lt_of_cell? _ _ cp02
  have lcq02 : w.heap.size + 1 < w2.heap.size := World.block_lt_of_cell? _ _ cq02
  go_wp2_with fail
  refine name_call fun w3 hw3 => ?_
  have b3 : Below w.heap.size w w3 := by rw [hw3]; (repeat (first | with_reducible exact Below.refl _ _ | with_reducible assumption | with_reducible refine Below.drew ?_ | with_reducible refine bdrewN ?_ _ | ((with_reducible refine balloc ?_ ?_ _); (focus (first | with_reducible exact Nat.le_refl _ | (simp; done) | omega | (simp; omega) | exact Nat.le_refl _))) | ((with_reducible refine bset ?_ ?_ _); (focus (first | with_reducible exact Nat.le_refl _ | (simp; done) | omega | (simp; omega) | exact Nat.le_refl _)))))
  have z3 : w2.heap.size + 0 ≤ w3.heap.size := by rw [hw3]; simp
  have e3 : Below w2.heap.size w2 w3 := by rw [hw3]; (repeat (first | with_reducible exact Below.refl _ _ | with_reducible assumption | with_reducible refine Below.drew ?_ | with_reducible refine bdrewN ?_ _ | ((with_reducible refine balloc ?_ ?_ _); (focus (first | with_reducible exact Nat.le_refl _ | (simp; done) | omega | (simp; omega) | exact Nat.le_refl _))) | ((with_reducible refine bset ?_ ?_ _); (focus (first | with_reducible exact Nat.le_refl _ | (simp; done) | omega | (simp; omega) | exact Nat.le_refl _)))))
  have cp03 := cell_keep e3 cp02
  have cq03 := cell_keep e3 cq02
  have cp13 := cell_keep e3 cp12
  have cq13 := cell_keep e3 cq12
  have cp23 := cell_keep e3 cp22
  have cq23 := cell_keep e3 cq22
  have tPa3 := tPa2.keep e3 (by omega)
  have tQa3 := tQa2.keep e3 (by omega)
  have tPb3 := tPb2.keep e3 (by omega)
  have tQb3 := tQb2.keep e3 (by omega)
  have tPc3 := tPc2.keep e3 (by omega)
  have tQc3 := tQc2.keep e3 (by omega)
  clear hw3 lcp02 lcq02 cp02 cq02 cp12 cq12 cp22 cq22 tPa2 tQa2 tPb2 tQb2 tPc2 tQc2
  refine (eqLin_same o1 l1 h1 _ o2 l2 h2 _ x.b _ tPb3 tQb3 (by omega) (by omega)).mono ?_; rintro e w4 ⟨rfl, f4⟩
  have b4 := b3.trans (f4.mono (by omega))
  have z4 := f4.size
  have cp04 := cell_keep f4 cp03
  have cq04 := cell_keep f4 cq03
  have cp14 := cell_keep f4 cp13
  have cq14 := cell_keep f4 cq13
  have cp24 := cell_keep f4 cp23
  have cq24 := cell_keep f4 cq23
  have tPa4 := tPa3.keep f4 (by omega)
  have tQa4 := tQa3.keep f4 (by omega)
  have tPb4 := tPb3.keep f4 (by omega)
  have tQb4 := tQb3.keep f4 (by omega)
  have tPc4 := tPc3.keep f4 (by omega)
  have tQc4 := tQc3.keep f4 (by omega)
  clear cp03 cq03 cp13 cq13 cp23 cq23 tPa3 tQa3 tPb3 tQb3 tPc3 tQc3
  have lcp04 : w.heap.size < w4.heap.size := World.block_lt_of_cell? _ _ cp04
  have lcq04 : w.heap.size + 1 < w4.heap.size := World.block_lt_of_cell? _ _ cq04
  go_wp2_with fail
  refine name_call fun w5 hw5 => ?_
  have b5 : Below w.heap.size w w5 := by rw [hw5]; (repeat (first | with_reducible exact Below.refl _ _ | with_reducible assumption | with_reducible refine Below.drew ?_ | with_reducible refine bdrewN ?_ _ | ((with_reducible refine balloc ?_ ?_ _); (focus (first | with_reducible exact Nat.le_refl _ | (simp; done) | omega | (simp; omega) | exact Nat.le_refl _))) | ((with_reducible refine bset ?_ ?_ _); (focus (first | with_reducible exact Nat.le_refl _ | (simp; done) | omega | (simp; omega) | exact Nat.le_refl _)))))
  have z5 : w4.heap.size + 0 ≤ w5.heap.size := by rw [hw5]; simp
  have e5 : Below w4.heap.size w4 w5 := by rw [hw5]; (repeat (first | with_reducible exact Below.refl _ _ | with_reducible assumption | with_reducible refine Below.drew ?_ | with_reducible refine bdrewN ?_ _ | ((with_reducible refine balloc ?_ ?_ _); (focus (first | with_reducible exact Nat.le_refl _ | (simp; done) | omega | (simp; omega) | exact Nat.le_refl _))) | ((with_reducible refine bset ?_ ?_ _); (focus (first | with_reducible exact Nat.le_refl _ | (simp; done) | omega | (simp; omega) | exact Nat.le_refl _)))))
  have cp05 := cell_keep e5 cp04
  have cq05 := cell_keep e5 cq04
  have cp15 := cell_keep e5 cp14
  have cq15 := cell_keep e5 cq14
  have cp25 := cell_keep e5 cp24
  have cq25 := cell_keep e5 cq24
  have tPa5 := tPa4.keep e5 (by omega)
  have tQa5 := tQa4.keep e5 (by omega)
  have tPb5 := tPb4.keep e5 (by omega)
  have tQb5 := tQb4.keep e5 (by omega)
  have tPc5 := tPc4.keep e5 (by omega)
  have tQc5 := tQc4.keep e5 (by omega)
  clear hw5 lcp04 lcq04 cp04 cq04 cp14 cq14 cp24 cq24 tPa4 tQa4 tPb4 tQb4 tPc4 tQc4
  refine (eqLin_same o1 l1 h1 _ o2 l2 h2 _ x.c _ tPc5 tQc5 (by omega) (by omega)).mono ?_; rintro e w6 ⟨rfl, f6⟩
  have b6 := b5.trans (f6.mono (by omega))
  have z6 := f6.size
  have cp06 := cell_keep f6 cp05
  have cq06 := cell_keep f6 cq05
  have cp16 := cell_keep f6 cp15
  have cq16 := cell_keep f6 cq15
  have cp26 := cell_keep f6 cp25
  have cq26 := cell_keep f6 cq25
  have tPa6 := tPa5.keep f6 (by omega)
  have tQa6 := tQa5.keep f6 (by omega)
  have tPb6 := tPb5.keep f6 (by omega)
  have tQb6 := tQb5.keep f6 (by omega)
  have tPc6 := tPc5.keep f6 (by omega)
  have tQc6 := tQc5.keep f6 (by omega)
  clear cp05 cq05 cp15 cq15 cp25 cq25 tPa5 tQa5 tPb5 tQb5 tPc5 tQc5
  go_wp2_with fail
  go_ret
  exact ⟨rfl, b6⟩

set_option maxRecDepth 100000 in
set_option maxHeartbeats 1600000 in
theorem eqHintS_same (o1 l1 h1 v o2 l2 h2 u) (xs : List HintC) (w : World) (t1 : HintS o1 l1 h1 w v xs) (t2 : HintS o2 l2 h2 w u xs) (hw1 : h1 ≤ w.heap.size) (hw2 : h2 ≤ w.heap.size) :
    Calls Try.prog 64 #[v, u] w fun e w' => e = .returned (.bool true) ∧ Below w.heap.size w w' := by
  obtain ⟨a, ca, rfl, la, ba⟩ := t1.shape
  obtain ⟨b, cb, rfl, lb, bb⟩ := t2.shape
  go_enter Try.func64, Try.ntmps64
  go_wp2_with fail
  go_loopw [5] (fun i wr => ∃ k : Nat, k ≤ xs.length ∧ i = .int .i64 k ∧ Below w.heap.size w wr) (fun i _ => xs.length - (intOf i).toNat)
  case atStart => exact ⟨0, Nat.zero_le _, rfl, Below.refl _ _⟩
  case round =>
    obtain ⟨k, hk, rfl, be⟩ := hrel
    by_cases hlt : k < xs.length
    · have s1 := t1.keep be hw1
      have s2 := t2.keep be hw2
      obtain ⟨b1, f1, x1, x2, rfl, q1, m1, c0, c1, c2, c3, _, _, d1, d2⟩ := s1.at hlt
      obtain ⟨b2, f2, y1, y2, rfl, q2, m2, g0, g1, g2, g3, _, _, d3, d4⟩ := s2.at hlt
      obtain ⟨x1, kx1, rfl, lx1, bx1⟩ := d1.shape
      obtain ⟨x2, kx2, rfl, lx2, bx2⟩ := d2.shape
      obtain ⟨y1, ky1, rfl, ly1, by1⟩ := d3.shape
      obtain ⟨y2, ky2, rfl, ly2, by2⟩ := d4.shape
      have zb := be.size
      have dz : Below wr.heap.size wr wr.drew := (Below.refl _ _).drew
      have zd : wr.heap.size ≤ wr.drew.heap.size := Nat.le_refl _
      have ed1 := d1.keep dz (by omega)
      have ed2 := d2.keep dz (by omega)
      have ed3 := d3.keep dz (by omega)
      have ed4 := d4.keep dz (by omega)
      clear s1 s2
      go_wp2_with fail
      go_region_held3 (fun w' => w'.cell? ⟨b1, f1 + k * 4, none⟩ = some (.int .i64 xs[k].kind) ∧ w'.cell? ⟨b1, f1 + k * 4 + 1, none⟩ = some (.slice x1 xs[k].a.length kx1) ∧ w'.cell? ⟨b1, f1 + k * 4 + 2, none⟩ = some (.slice x2 xs[k].b.length kx2) ∧ w'.cell? ⟨b1, f1 + k * 4 + 3, none⟩ = some (.int .i64 xs[k].k) ∧ w'.cell? ⟨b2, f2 + k * 4, none⟩ = some (.int .i64 xs[k].kind) ∧ w'.cell? ⟨b2, f2 + k * 4 + 1, none⟩ = some (.slice y1 xs[k].a.length ky1) ∧ w'.cell? ⟨b2, f2 + k * 4 + 2, none⟩ = some (.slice y2 xs[k].b.length ky2) ∧ w'.cell? ⟨b2, f2 + k * 4 + 3, none⟩ = some (.int .i64 xs[k].k)) (first | exact ⟨c0, c1, c2, c3, g0, g1, g2, g3⟩ | exact ⟨cell_keep f c0, cell_keep f c1, cell_keep f c2, cell_keep f c3, cell_keep f g0, cell_keep f g1, cell_keep f g2, cell_keep f g3⟩)
        (first | (go_at_call 123; refine (eqHint_same o1 l1 h1 _ _ o2 l2 h2 _ _ xs[k] wr.drew ed1 ed3 ed2 ed4 (by omega) (by omega)).mono ?_; rintro e w2 ⟨rfl, f⟩))
      go_wp2_with fail
      go_roundw
      case rel => exact ⟨k + 1, by omega, by go_num, be.drew.trans (f.mono be.size)⟩
      case measure => simp [intOf]; omega
    · go_wp2_with fail
      go_ret
      exact ⟨rfl, be⟩

set_option maxRecDepth 100000 in
set_option maxHeartbeats 1600000 in
theorem eqConS_same (o1 l1 h1 v o2 l2 h2 u) (xs : List ConC) (w : World) (t1 : ConS o1 l1 h1 w v xs) (t2 : ConS o2 l2 h2 w u xs) (hw1 : h1 ≤ w.heap.size) (hw2 : h2 ≤ w.heap.size) :
    Calls Try.prog 65 #[v, u] w fun e w' => e = .returned (.bool true) ∧ Below w.heap.size w w' := by
  obtain ⟨a, ca, rfl, la, ba⟩ := t1.shape
  obtain ⟨b, cb, rfl, lb, bb⟩ := t2.shape
  go_enter Try.func65, Try.ntmps65
  go_wp2_with fail
  go_loopw [5] (fun i wr => ∃ k : Nat, k ≤ xs.length ∧ i = .int .i64 k ∧ Below w.heap.size w wr) (fun i _ => xs.length - (intOf i).toNat)
  case atStart => exact ⟨0, Nat.zero_le _, rfl, Below.refl _ _⟩
  case round =>
    obtain ⟨k, hk, rfl, be⟩ := hrel
    by_cases hlt : k < xs.length
    · have s1 := t1.keep be hw1
      have s2 := t2.keep be hw2
      obtain ⟨b1, f1, x1, x2, x3, rfl, q1, m1, c0, c1, c2, d1, d2, d3⟩ := s1.at hlt
      obtain ⟨b2, f2, y1, y2, y3, rfl, q2, m2, g0, g1, g2, d4, d5, d6⟩ := s2.at hlt
      obtain ⟨x1, kx1, rfl, lx1, bx1⟩ := d1.shape
      obtain ⟨x2, kx2, rfl, lx2, bx2⟩ := d2.shape
      obtain ⟨x3, kx3, rfl, lx3, bx3⟩ := d3.shape
      obtain ⟨y1, ky1, rfl, ly1, by1⟩ := d4.shape
      obtain ⟨y2, ky2, rfl, ly2, by2⟩ := d5.shape
      obtain ⟨y3, ky3, rfl, ly3, by3⟩ := d6.shape
      have zb := be.size
      have dz : Below wr.heap.size wr wr.drew := (Below.refl _ _).drew
      have zd : wr.heap.size ≤ wr.drew.heap.size := Nat.le_refl _
      have ed1 := d1.keep dz (by omega)
      have ed2 := d2.keep dz (by omega)
      have ed3 := d3.keep dz (by omega)
      have ed4 := d4.keep dz (by omega)
      have ed5 := d5.keep dz (by omega)
      have ed6 := d6.keep dz (by omega)
      clear s1 s2
      go_wp2_with fail
      go_region_held3 (fun w' => w'.cell? ⟨b1, f1 + k * 3, none⟩ = some (.slice x1 xs[k].a.length kx1) ∧ w'.cell? ⟨b1, f1 + k * 3 + 1, none⟩ = some (.slice x2 xs[k].b.length kx2) ∧ w'.cell? ⟨b1, f1 + k * 3 + 2, none⟩ = some (.slice x3 xs[k].c.length kx3) ∧ w'.cell? ⟨b2, f2 + k * 3, none⟩ = some (.slice y1 xs[k].a.length ky1) ∧ w'.cell? ⟨b2, f2 + k * 3 + 1, none⟩ = some (.slice y2 xs[k].b.length ky2) ∧ w'.cell? ⟨b2, f2 + k * 3 + 2, none⟩ = some (.slice y3 xs[k].c.length ky3)) (first | exact ⟨c0, c1, c2, g0, g1, g2⟩ | exact ⟨cell_keep f c0, cell_keep f c1, cell_keep f c2, cell_keep f g0, cell_keep f g1, cell_keep f g2⟩)
        (first | (go_at_call 124; refine (eqCon_same o1 l1 h1 _ _ _ o2 l2 h2 _ _ _ xs[k] wr.drew ed1 ed4 ed2 ed5 ed3 ed6 (by omega) (by omega)).mono ?_; rintro e w2 ⟨rfl, f⟩))
      go_wp2_with fail
      go_roundw
      case rel => exact ⟨k + 1, by omega, by go_num, be.drew.trans (f.mono be.size)⟩
      case measure => simp [intOf]; omega
    · go_wp2_with fail
      go_ret
      exact ⟨rfl, be⟩

set_option maxRecDepth 100000 in
set_option maxHeartbeats 1600000 in
theorem eqSys0_same (o1 l1 h1 vouts vhints vcons o2 l2 h2 uouts uhints ucons) (x : SysC) (w : World) (pouts : LinS o1 l1 h1 w vouts x.outs) (qouts : LinS o2 l2 h2 w uouts x.outs) (phints : HintS o1 l1 h1 w vhints x.hints) (qhints : HintS o2 l2 h2 w uhints x.hints) (pcons : ConS o1 l1 h1 w vcons x.cons) (qcons : ConS o2 l2 h2 w ucons x.cons) (hw1 : h1 ≤ w.heap.size) (hw2 : h2 ≤ w.heap.size) :
    Calls Try.prog 19 #[.agg #[.int .i64 x.ins, vouts, vhints, vcons], .agg #[.int .i64 x.ins, uouts, uhints, ucons]] w fun e w' => e = .returned (.bool true) ∧ Below w.heap.size w w' := by
  obtain ⟨aouts, kouts, rfl, laouts, baouts⟩ := pouts.shape
  obtain ⟨couts, mouts, rfl, lcouts, bcouts⟩ := qouts.shape
  obtain ⟨ahints, khints, rfl, lahints, bahints⟩ := phints.shape
  obtain ⟨chints, mhints, rfl, lchints, bchints⟩ := qhints.shape
  obtain ⟨acons, kcons, rfl, lacons, bacons⟩ := pcons.shape
  obtain ⟨ccons, mcons, rfl, lccons, bccons⟩ := qcons.shape
  go_enter Try.func19, Try.ntmps19
  go_wp2_with fail
  refine name_call fun w1 hw1 => ?_
  have b1 : Below w.heap.size w w1 := by rw [hw1]; (repeat (first | with_reducible exact Below.refl _ _ | with_reducible assumption | with_reducible refine Below.drew ?_ | with_reducible refine bdrewN ?_ _ | ((with_reducible refine balloc ?_ ?_ _); (focus (first | with_reducible exact Nat.le_refl _ | (simp; done) | omega | (simp; omega) | exact Nat.le_refl _))) | ((with_reducible refine bset ?_ ?_ _); (focus (first | with_reducible exact Nat.le_refl _ | (simp; done) | omega | (simp; omega) | exact Nat.le_refl _)))))
  have z1 : w.heap.size + 2 ≤ w1.heap.size := by rw [hw1]; simp
  have e1 : Below w.heap.size w w1 := by rw [hw1]; (repeat (first | with_reducible exact Below.refl _ _ | with_reducible assumption | with_reducible refine Below.drew ?_ | with_reducible refine bdrewN ?_ _ | ((with_reducible refine balloc ?_ ?_ _); (focus (first | with_reducible exact Nat.le_refl _ | (simp; done) | omega | (simp; omega) | exact Nat.le_refl _))) | ((with_reducible refine bset ?_ ?_ _); (focus (first | with_reducible exact Nat.le_refl _ | (simp; done) | omega | (simp; omega) | exact Nat.le_refl _)))))
  have cp01 : w1.cell? ⟨w.heap.size, 0, none⟩ = some (.int .i64 x.ins) := by rw [hw1]; first | (simp; done) | go_simp
  have cq01 : w1.cell? ⟨w.heap.size + 1, 0, none⟩ = some (.int .i64 x.ins) := by rw [hw1]; first | (simp; done) | go_simp
  have cp11 : w1.cell? ⟨w.heap.size, 1, none⟩ = some (.slice aouts x.outs.length kouts) := by rw [hw1]; first | (simp; done) | go_simp
  have cq11 : w1.cell? ⟨w.heap.size + 1, 1, none⟩ = some (.slice couts x.outs.length mouts) := by rw [hw1]; first | (simp; done) | go_simp
  have cp21 : w1.cell? ⟨w.heap.size, 2, none⟩ = some (.slice ahints x.hints.length khints) := by rw [hw1]; first | (simp; done) | go_simp
  have cq21 : w1.cell? ⟨w.heap.size + 1, 2, none⟩ = some (.slice chints x.hints.length mhints) := by rw [hw1]; first | (simp; done) | go_simp
  have cp31 : w1.cell? ⟨w.heap.size, 3, none⟩ = some (.slice acons x.cons.length kcons) := by rw [hw1]; first | (simp; done) | go_simp
  have cq31 : w1.cell? ⟨w.heap.size + 1, 3, none⟩ = some (.slice ccons x.cons.length mcons) := by rw [hw1]; first | (simp; done) | go_simp
  have tPouts1 := pouts.keep e1 (by omega)
  have tQouts1 := qouts.keep e1 (by omega)
  have tPhints1 := phints.keep e1 (by omega)
  have tQhints1 := qhints.keep e1 (by omega)
  have tPcons1 := pcons.keep e1 (by omega)
  have tQcons1 := qcons.keep e1 (by omega)
  clear hw1
  refine (eqLinS_same o1 l1 h1 _ o2 l2 h2 _ x.outs _ tPouts1 tQouts1 (by omega) (by omega)).mono ?_; rintro e w2 ⟨rfl, f2⟩
  have b2 := b1.trans (f2.mono (by omega))
  have z2 := f2.size
  have cp02 := cell_keep f2 cp01
  have cq02 := cell_keep f2 cq01
  have cp12 := cell_keep f2 cp11
  have cq12 := cell_keep f2 cq11
  have cp22 := cell_keep f2 cp21
  have cq22 := cell_keep f2 cq21
  have cp32 := cell_keep f2 cp31
  have cq32 := cell_keep f2 cq31
  have tPouts2 := tPouts1.keep f2 (by omega)
  have tQouts2 := tQouts1.keep f2 (by omega)
  have tPhints2 := tPhints1.keep f2 (by omega)
  have tQhints2 := tQhints1.keep f2 (by omega)
  have tPcons2 := tPcons1.keep f2 (by omega)
  have tQcons2 := tQcons1.keep f2 (by omega)
  clear cp01 cq01 cp11 cq11 cp21 cq21 cp31 cq31 tPouts1 tQouts1 tPhints1 tQhints1 tPcons1 tQcons1
  have lcp02 : w.heap.size < w2.heap.size := World.block_lt_of_cell? _ _ cp02
  have lcq02 : w.heap.size + 1 < w2.heap.size := World.block_lt_of_cell? _ _ cq02
  go_wp2_with fail
  refine name_call fun w3 hw3 => ?_
  have b3 : Below w.heap.size w w3 := by rw [hw3]; (repeat (first | with_reducible exact Below.refl _ _ | with_reducible assumption | with_reducible refine Below.drew ?_ | with_reducible refine bdrewN ?_ _ | ((with_reducible refine balloc ?_ ?_ _); (focus (first | with_reducible exact Nat.le_refl _ | (simp; done) | omega | (simp; omega) | exact Nat.le_refl _))) | ((with_reducible refine bset ?_ ?_ _); (focus (first | with_reducible exact Nat.le_refl _ | (simp; done) | omega | (simp; omega) | exact Nat.le_refl _)))))
  have z3 : w2.heap.size + 0 ≤ w3.heap.size := by rw [hw3]; simp
  have e3 : Below w2.heap.size w2 w3 := by rw [hw3]; (repeat (first | with_reducible exact Below.refl _ _ | with_reducible assumption | with_reducible refine Below.drew ?_ | with_reducible refine bdrewN ?_ _ | ((with_reducible refine balloc ?_ ?_ _); (focus (first | with_reducible exact Nat.le_refl _ | (simp; done) | omega | (simp; omega) | exact Nat.le_refl _))) | ((with_reducible refine bset ?_ ?_ _); (focus (first | with_reducible exact Nat.le_refl _ | (simp; done) | omega | (simp; omega) | exact Nat.le_refl _)))))
  have cp03 := cell_keep e3 cp02
  have cq03 := cell_keep e3 cq02
  have cp13 := cell_keep e3 cp12
  have cq13 := cell_keep e3 cq12
  have cp23 := cell_keep e3 cp22
  have cq23 := cell_keep e3 cq22
  have cp33 := cell_keep e3 cp32
  have cq33 := cell_keep e3 cq32
  have tPouts3 := tPouts2.keep e3 (by omega)
  have tQouts3 := tQouts2.keep e3 (by omega)
  have tPhints3 := tPhints2.keep e3 (by omega)
  have tQhints3 := tQhints2.keep e3 (by omega)
  have tPcons3 := tPcons2.keep e3 (by omega)
  have tQcons3 := tQcons2.keep e3 (by omega)
  clear hw3 lcp02 lcq02 cp02 cq02 cp12 cq12 cp22 cq22 cp32 cq32 tPouts2 tQouts2 tPhints2 tQhints2 tPcons2 tQcons2
  refine (eqHintS_same o1 l1 h1 _ o2 l2 h2 _ x.hints _ tPhints3 tQhints3 (by omega) (by omega)).mono ?_; rintro e w4 ⟨rfl, f4⟩
  have b4 := b3.trans (f4.mono (by omega))
  have z4 := f4.size
  have cp04 := cell_keep f4 cp03
  have cq04 := cell_keep f4 cq03
  have cp14 := cell_keep f4 cp13
  have cq14 := cell_keep f4 cq13
  have cp24 := cell_keep f4 cp23
  have cq24 := cell_keep f4 cq23
  have cp34 := cell_keep f4 cp33
  have cq34 := cell_keep f4 cq33
  have tPouts4 := tPouts3.keep f4 (by omega)
  have tQouts4 := tQouts3.keep f4 (by omega)
  have tPhints4 := tPhints3.keep f4 (by omega)
  have tQhints4 := tQhints3.keep f4 (by omega)
  have tPcons4 := tPcons3.keep f4 (by omega)
  have tQcons4 := tQcons3.keep f4 (by omega)
  clear cp03 cq03 cp13 cq13 cp23 cq23 cp33 cq33 tPouts3 tQouts3 tPhints3 tQhints3 tPcons3 tQcons3
  have lcp04 : w.heap.size < w4.heap.size := World.block_lt_of_cell? _ _ cp04
  have lcq04 : w.heap.size + 1 < w4.heap.size := World.block_lt_of_cell? _ _ cq04
  go_wp2_with fail
  refine name_call fun w5 hw5 => ?_
  have b5 : Below w.heap.size w w5 := by rw [hw5]; (repeat (first | with_reducible exact Below.refl _ _ | with_reducible assumption | with_reducible refine Below.drew ?_ | with_reducible refine bdrewN ?_ _ | ((with_reducible refine balloc ?_ ?_ _); (focus (first | with_reducible exact Nat.le_refl _ | (simp; done) | omega | (simp; omega) | exact Nat.le_refl _))) | ((with_reducible refine bset ?_ ?_ _); (focus (first | with_reducible exact Nat.le_refl _ | (simp; done) | omega | (simp; omega) | exact Nat.le_refl _)))))
  have z5 : w4.heap.size + 0 ≤ w5.heap.size := by rw [hw5]; simp
  have e5 : Below w4.heap.size w4 w5 := by rw [hw5]; (repeat (first | with_reducible exact Below.refl _ _ | with_reducible assumption | with_reducible refine Below.drew ?_ | with_reducible refine bdrewN ?_ _ | ((with_reducible refine balloc ?_ ?_ _); (focus (first | with_reducible exact Nat.le_refl _ | (simp; done) | omega | (simp; omega) | exact Nat.le_refl _))) | ((with_reducible refine bset ?_ ?_ _); (focus (first | with_reducible exact Nat.le_refl _ | (simp; done) | omega | (simp; omega) | exact Nat.le_refl _)))))
  have cp05 := cell_keep e5 cp04
  have cq05 := cell_keep e5 cq04
  have cp15 := cell_keep e5 cp14
  have cq15 := cell_keep e5 cq14
  have cp25 := cell_keep e5 cp24
  have cq25 := cell_keep e5 cq24
  have cp35 := cell_keep e5 cp34
  have cq35 := cell_keep e5 cq34
  have tPouts5 := tPouts4.keep e5 (by omega)
  have tQouts5 := tQouts4.keep e5 (by omega)
  have tPhints5 := tPhints4.keep e5 (by omega)
  have tQhints5 := tQhints4.keep e5 (by omega)
  have tPcons5 := tPcons4.keep e5 (by omega)
  have tQcons5 := tQcons4.keep e5 (by omega)
  clear hw5 lcp04 lcq04 cp04 cq04 cp14 cq14 cp24 cq24 cp34 cq34 tPouts4 tQouts4 tPhints4 tQhints4 tPcons4 tQcons4
  refine (eqConS_same o1 l1 h1 _ o2 l2 h2 _ x.cons _ tPcons5 tQcons5 (by omega) (by omega)).mono ?_; rintro e w6 ⟨rfl, f6⟩
  have b6 := b5.trans (f6.mono (by omega))
  have z6 := f6.size
  have cp06 := cell_keep f6 cp05
  have cq06 := cell_keep f6 cq05
  have cp16 := cell_keep f6 cp15
  have cq16 := cell_keep f6 cq15
  have cp26 := cell_keep f6 cp25
  have cq26 := cell_keep f6 cq25
  have cp36 := cell_keep f6 cp35
  have cq36 := cell_keep f6 cq35
  have tPouts6 := tPouts5.keep f6 (by omega)
  have tQouts6 := tQouts5.keep f6 (by omega)
  have tPhints6 := tPhints5.keep f6 (by omega)
  have tQhints6 := tQhints5.keep f6 (by omega)
  have tPcons6 := tPcons5.keep f6 (by omega)
  have tQcons6 := tQcons5.keep f6 (by omega)
  clear cp05 cq05 cp15 cq15 cp25 cq25 cp35 cq35 tPouts5 tQouts5 tPhints5 tQhints5 tPcons5 tQcons5
  go_wp2_with fail
  go_ret
  exact ⟨rfl, b6⟩

theorem eqSys_same (o1 l1 h1 vi vo vh vc o2 l2 h2 ui uo uh uc) (x : SysC) (w : World) (t1 : SysR o1 l1 h1 w vi vo vh vc x) (t2 : SysR o2 l2 h2 w ui uo uh uc x) (hw1 : h1 ≤ w.heap.size) (hw2 : h2 ≤ w.heap.size) :
    Calls Try.prog 19 #[.agg #[vi, vo, vh, vc], .agg #[ui, uo, uh, uc]] w fun e w' => e = .returned (.bool true) ∧ Below w.heap.size w w' := by
  obtain ⟨a1, a2, a3⟩ := t1.parts
  obtain ⟨b1, b2, b3⟩ := t2.parts
  rw [t1.1, t2.1]
  exact eqSys0_same o1 l1 h1 _ _ _ o2 l2 h2 _ _ _ x w a1 b1 a2 b2 a3 b3 hw1 hw2
end Go.Proofs.Yteekpdlkdpkegaa.L
