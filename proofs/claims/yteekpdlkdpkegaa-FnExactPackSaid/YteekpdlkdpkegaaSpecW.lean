/- Valid systems: the model's SysOk. -/
import Derived.Test.YteekpdlkdpkegaaSysOk
namespace Go.Proofs.Yteekpdlkdpkegaa.L
open Go.RowKit Go.Proofs.Yteekpdlkdpkegaa.S
set_option linter.unusedVariables false
set_option linter.unusedSimpArgs false

theorem l2w_any (o l h va ts) (n : Int) (w : World) (t : Terms o l h w va ts) (hw : h ≤ w.heap.size) (n0 : 0 ≤ n) (n1 : n ≤ 1000000) (hk : linOk ts = true) (b : Bool) (hb : linW n ts = b) :
    Calls Try.prog 110 #[.agg #[va], .int .i64 n] w fun e w' => e = .returned (.bool b) ∧ Below w.heap.size w w' := by
  obtain ⟨m, rfl⟩ : ∃ m : Nat, n = m := ⟨n.toNat, by omega⟩
  have := within_any o l h va ts m w t hw hk (by omega)
  rw [linW_within, hk, Bool.true_and] at hb
  rw [hb] at this; exact this
theorem lok_spec (o l h v ts) (w : World) (h1 : Terms o l h w v ts) (hw : h ≤ w.heap.size) (b : Bool) (hk : linOk ts = b) :
    Calls Try.prog 94 #[.agg #[v]] w fun e w' => e = .returned (.bool b) ∧ Below w.heap.size w w' := by
  have := linOk_spec o l h v ts w h1 hw
  rw [hk] at this; exact this

set_option maxRecDepth 100000 in
theorem l3vars_any (s : SysC) (ao ko ah kh ac kc) (w : World) (i0 : 0 ≤ s.ins) (i1 : s.ins ≤ 100) (hn : s.hints.length ≤ 1048576) :
    Calls Try.prog 111 #[.agg #[.int .i64 s.ins, .slice ao s.outs.length ko, .slice ah s.hints.length kh, .slice ac s.cons.length kc]] w fun e w' => e = .returned (.int .i64 (1 + s.ins + s.hints.length)) ∧ Below w.heap.size w w' := by
  go_enter Try.func111, Try.ntmps111
  go_wp2_with fail
  go_ret
  exact ⟨rfl, by (repeat (first | with_reducible exact Below.refl _ _ | with_reducible assumption | with_reducible refine Below.drew ?_ | with_reducible refine bdrewN ?_ _ | ((with_reducible refine balloc ?_ ?_ _); (focus (first | with_reducible exact Nat.le_refl _ | (simp; done) | omega | (simp; omega) | exact Nat.le_refl _))) | ((with_reducible refine bset ?_ ?_ _); (focus (first | with_reducible exact Nat.le_refl _ | (simp; done) | omega | (simp; omega) | exact Nat.le_refl _)))))⟩

set_option maxRecDepth 100000 in
set_option maxHeartbeats 3200000 in
theorem l3con_any (o l h va vb vc) (x : ConC) (n : Int) (w : World) (ta : Terms o l h w va x.a) (tb : Terms o l h w vb x.b) (tc : Terms o l h w vc x.c) (hw : h ≤ w.heap.size) (n0 : 0 ≤ n) (n1 : n ≤ 1000000) :
    Calls Try.prog 138 #[.agg #[va, vb, vc], .int .i64 n] w fun e w' => e = .returned (.bool (conW n x)) ∧ Below w.heap.size w w' := by
  obtain ⟨aa, ka, rfl, laa, baa⟩ := ta.shape
  obtain ⟨ab, kb, rfl, lab, bab⟩ := tb.shape
  obtain ⟨ac, kc, rfl, lac, bac⟩ := tc.shape
  cases ha : linOk x.a
  · have HR : Hid (conW n x = false) := Lib.hid (by simp [conW, linW_no ha])
    go_enter Try.func138, Try.ntmps138
    go_wp2_with fail
    refine name_call fun w1 hw1 => ?_
    have b1 : Below w.heap.size w w1 := by rw [hw1]; (repeat (first | with_reducible exact Below.refl _ _ | with_reducible assumption | with_reducible refine Below.drew ?_ | with_reducible refine bdrewN ?_ _ | ((with_reducible refine balloc ?_ ?_ _); (focus (first | with_reducible exact Nat.le_refl _ | (simp; done) | omega | (simp; omega) | exact Nat.le_refl _))) | ((with_reducible refine bset ?_ ?_ _); (focus (first | with_reducible exact Nat.le_refl _ | (simp; done) | omega | (simp; omega) | exact Nat.le_refl _)))))
    have z1 : w.heap.size + 1 ≤ w1.heap.size := by rw [hw1]; simp
    have e1 : Below w.heap.size w w1 := by rw [hw1]; (repeat (first | with_reducible exact Below.refl _ _ | with_reducible assumption | with_reducible refine Below.drew ?_ | with_reducible refine bdrewN ?_ _ | ((with_reducible refine balloc ?_ ?_ _); (focus (first | with_reducible exact Nat.le_refl _ | (simp; done) | omega | (simp; omega) | exact Nat.le_refl _))) | ((with_reducible refine bset ?_ ?_ _); (focus (first | with_reducible exact Nat.le_refl _ | (simp; done) | omega | (simp; omega) | exact Nat.le_refl _)))))
    have ca1 : w1.cell? ⟨w.heap.size, 0, none⟩ = some (.slice aa x.a.length ka) := by rw [hw1]; first | (simp; done) | go_simp
    have cb1 : w1.cell? ⟨w.heap.size, 1, none⟩ = some (.slice ab x.b.length kb) := by rw [hw1]; first | (simp; done) | go_simp
    have cc1 : w1.cell? ⟨w.heap.size, 2, none⟩ = some (.slice ac x.c.length kc) := by rw [hw1]; first | (simp; done) | go_simp
    have ta1 := ta.keep e1 (by omega)
    have tb1 := tb.keep e1 (by omega)
    have tc1 := tc.keep e1 (by omega)
    clear hw1
    refine (lok_spec o l h _ x.a _ ta1 (by omega) _ ha).mono ?_; rintro e w2 ⟨rfl, f2⟩
    have b2 := b1.trans (f2.mono (by omega))
    have z2 := f2.size
    have ca2 := cell_keep f2 ca1
    have cb2 := cell_keep f2 cb1
    have cc2 := cell_keep f2 cc1
    have ta2 := ta1.keep f2 (by omega)
    have tb2 := tb1.keep f2 (by omega)
    have tc2 := tc1.keep f2 (by omega)
    clear ca1 cb1 cc1 ta1 tb1 tc1
    go_wp2_with fail
    go_ret
    exact ⟨ret_bool HR.out.symm, b2⟩
  cases hb : linOk x.b
  · have HR : Hid (conW n x = false) := Lib.hid (by simp [conW, linW_no hb])
    go_enter Try.func138, Try.ntmps138
    go_wp2_with fail
    refine name_call fun w1 hw1 => ?_
    have b1 : Below w.heap.size w w1 := by rw [hw1]; (repeat (first | with_reducible exact Below.refl _ _ | with_reducible assumption | with_reducible refine Below.drew ?_ | with_reducible refine bdrewN ?_ _ | ((with_reducible refine balloc ?_ ?_ _); (focus (first | with_reducible exact Nat.le_refl _ | (simp; done) | omega | (simp; omega) | exact Nat.le_refl _))) | ((with_reducible refine bset ?_ ?_ _); (focus (first | with_reducible exact Nat.le_refl _ | (simp; done) | omega | (simp; omega) | exact Nat.le_refl _)))))
    have z1 : w.heap.size + 1 ≤ w1.heap.size := by rw [hw1]; simp
    have e1 : Below w.heap.size w w1 := by rw [hw1]; (repeat (first | with_reducible exact Below.refl _ _ | with_reducible assumption | with_reducible refine Below.drew ?_ | with_reducible refine bdrewN ?_ _ | ((with_reducible refine balloc ?_ ?_ _); (focus (first | with_reducible exact Nat.le_refl _ | (simp; done) | omega | (simp; omega) | exact Nat.le_refl _))) | ((with_reducible refine bset ?_ ?_ _); (focus (first | with_reducible exact Nat.le_refl _ | (simp; done) | omega | (simp; omega) | exact Nat.le_refl _)))))
    have ca1 : w1.cell? ⟨w.heap.size, 0, none⟩ = some (.slice aa x.a.length ka) := by rw [hw1]; first | (simp; done) | go_simp
    have cb1 : w1.cell? ⟨w.heap.size, 1, none⟩ = some (.slice ab x.b.length kb) := by rw [hw1]; first | (simp; done) | go_simp
    have cc1 : w1.cell? ⟨w.heap.size, 2, none⟩ = some (.slice ac x.c.length kc) := by rw [hw1]; first | (simp; done) | go_simp
    have ta1 := ta.keep e1 (by omega)
    have tb1 := tb.keep e1 (by omega)
    have tc1 := tc.keep e1 (by omega)
    clear hw1
    refine (lok_spec o l h _ x.a _ ta1 (by omega) _ ha).mono ?_; rintro e w2 ⟨rfl, f2⟩
    have b2 := b1.trans (f2.mono (by omega))
    have z2 := f2.size
    have ca2 := cell_keep f2 ca1
    have cb2 := cell_keep f2 cb1
    have cc2 := cell_keep f2 cc1
    have ta2 := ta1.keep f2 (by omega)
    have tb2 := tb1.keep f2 (by omega)
    have tc2 := tc1.keep f2 (by omega)
    clear ca1 cb1 cc1 ta1 tb1 tc1
    have lca2 : w.heap.size < w2.heap.size := World.block_lt_of_cell? _ _ ca2
    go_wp2_with fail
    refine name_call fun w3 hw3 => ?_
    have b3 : Below w.heap.size w w3 := by rw [hw3]; (repeat (first | with_reducible exact Below.refl _ _ | with_reducible assumption | with_reducible refine Below.drew ?_ | with_reducible refine bdrewN ?_ _ | ((with_reducible refine balloc ?_ ?_ _); (focus (first | with_reducible exact Nat.le_refl _ | (simp; done) | omega | (simp; omega) | exact Nat.le_refl _))) | ((with_reducible refine bset ?_ ?_ _); (focus (first | with_reducible exact Nat.le_refl _ | (simp; done) | omega | (simp; omega) | exact Nat.le_refl _)))))
    have z3 : w2.heap.size + 0 ≤ w3.heap.size := by rw [hw3]; simp
    have e3 : Below w2.heap.size w2 w3 := by rw [hw3]; (repeat (first | with_reducible exact Below.refl _ _ | with_reducible assumption | with_reducible refine Below.drew ?_ | with_reducible refine bdrewN ?_ _ | ((with_reducible refine balloc ?_ ?_ _); (focus (first | with_reducible exact Nat.le_refl _ | (simp; done) | omega | (simp; omega) | exact Nat.le_refl _))) | ((with_reducible refine bset ?_ ?_ _); (focus (first | with_reducible exact Nat.le_refl _ | (simp; done) | omega | (simp; omega) | exact Nat.le_refl _)))))
    have ca3 := cell_keep e3 ca2
    have cb3 := cell_keep e3 cb2
    have cc3 := cell_keep e3 cc2
    have ta3 := ta2.keep e3 (by omega)
    have tb3 := tb2.keep e3 (by omega)
    have tc3 := tc2.keep e3 (by omega)
    clear hw3 lca2 ca2 cb2 cc2 ta2 tb2 tc2
    refine (lok_spec o l h _ x.b _ tb3 (by omega) _ hb).mono ?_; rintro e w4 ⟨rfl, f4⟩
    have b4 := b3.trans (f4.mono (by omega))
    have z4 := f4.size
    have ca4 := cell_keep f4 ca3
    have cb4 := cell_keep f4 cb3
    have cc4 := cell_keep f4 cc3
    have ta4 := ta3.keep f4 (by omega)
    have tb4 := tb3.keep f4 (by omega)
    have tc4 := tc3.keep f4 (by omega)
    clear ca3 cb3 cc3 ta3 tb3 tc3
    go_wp2_with fail
    go_ret
    exact ⟨ret_bool HR.out.symm, b4⟩
  cases hc : linOk x.c
  · have HR : Hid (conW n x = false) := Lib.hid (by simp [conW, linW_no hc])
    go_enter Try.func138, Try.ntmps138
    go_wp2_with fail
    refine name_call fun w1 hw1 => ?_
    have b1 : Below w.heap.size w w1 := by rw [hw1]; (repeat (first | with_reducible exact Below.refl _ _ | with_reducible assumption | with_reducible refine Below.drew ?_ | with_reducible refine bdrewN ?_ _ | ((with_reducible refine balloc ?_ ?_ _); (focus (first | with_reducible exact Nat.le_refl _ | (simp; done) | omega | (simp; omega) | exact Nat.le_refl _))) | ((with_reducible refine bset ?_ ?_ _); (focus (first | with_reducible exact Nat.le_refl _ | (simp; done) | omega | (simp; omega) | exact Nat.le_refl _)))))
    have z1 : w.heap.size + 1 ≤ w1.heap.size := by rw [hw1]; simp
    have e1 : Below w.heap.size w w1 := by rw [hw1]; (repeat (first | with_reducible exact Below.refl _ _ | with_reducible assumption | with_reducible refine Below.drew ?_ | with_reducible refine bdrewN ?_ _ | ((with_reducible refine balloc ?_ ?_ _); (focus (first | with_reducible exact Nat.le_refl _ | (simp; done) | omega | (simp; omega) | exact Nat.le_refl _))) | ((with_reducible refine bset ?_ ?_ _); (focus (first | with_reducible exact Nat.le_refl _ | (simp; done) | omega | (simp; omega) | exact Nat.le_refl _)))))
    have ca1 : w1.cell? ⟨w.heap.size, 0, none⟩ = some (.slice aa x.a.length ka) := by rw [hw1]; first | (simp; done) | go_simp
    have cb1 : w1.cell? ⟨w.heap.size, 1, none⟩ = some (.slice ab x.b.length kb) := by rw [hw1]; first | (simp; done) | go_simp
    have cc1 : w1.cell? ⟨w.heap.size, 2, none⟩ = some (.slice ac x.c.length kc) := by rw [hw1]; first | (simp; done) | go_simp
    have ta1 := ta.keep e1 (by omega)
    have tb1 := tb.keep e1 (by omega)
    have tc1 := tc.keep e1 (by omega)
    clear hw1
    refine (lok_spec o l h _ x.a _ ta1 (by omega) _ ha).mono ?_; rintro e w2 ⟨rfl, f2⟩
    have b2 := b1.trans (f2.mono (by omega))
    have z2 := f2.size
    have ca2 := cell_keep f2 ca1
    have cb2 := cell_keep f2 cb1
    have cc2 := cell_keep f2 cc1
    have ta2 := ta1.keep f2 (by omega)
    have tb2 := tb1.keep f2 (by omega)
    have tc2 := tc1.keep f2 (by omega)
    clear ca1 cb1 cc1 ta1 tb1 tc1
    have lca2 : w.heap.size < w2.heap.size := World.block_lt_of_cell? _ _ ca2
    go_wp2_with fail
    refine name_call fun w3 hw3 => ?_
    have b3 : Below w.heap.size w w3 := by rw [hw3]; (repeat (first | with_reducible exact Below.refl _ _ | with_reducible assumption | with_reducible refine Below.drew ?_ | with_reducible refine bdrewN ?_ _ | ((with_reducible refine balloc ?_ ?_ _); (focus (first | with_reducible exact Nat.le_refl _ | (simp; done) | omega | (simp; omega) | exact Nat.le_refl _))) | ((with_reducible refine bset ?_ ?_ _); (focus (first | with_reducible exact Nat.le_refl _ | (simp; done) | omega | (simp; omega) | exact Nat.le_refl _)))))
    have z3 : w2.heap.size + 0 ≤ w3.heap.size := by rw [hw3]; simp
    have e3 : Below w2.heap.size w2 w3 := by rw [hw3]; (repeat (first | with_reducible exact Below.refl _ _ | with_reducible assumption | with_reducible refine Below.drew ?_ | with_reducible refine bdrewN ?_ _ | ((with_reducible refine balloc ?_ ?_ _); (focus (first | with_reducible exact Nat.le_refl _ | (simp; done) | omega | (simp; omega) | exact Nat.le_refl _))) | ((with_reducible refine bset ?_ ?_ _); (focus (first | with_reducible exact Nat.le_refl _ | (simp; done) | omega | (simp; omega) | exact Nat.le_refl _)))))
    have ca3 := cell_keep e3 ca2
    have cb3 := cell_keep e3 cb2
    have cc3 := cell_keep e3 cc2
    have ta3 := ta2.keep e3 (by omega)
    have tb3 := tb2.keep e3 (by omega)
    have tc3 := tc2.keep e3 (by omega)
    clear hw3 lca2 ca2 cb2 cc2 ta2 tb2 tc2
    refine (lok_spec o l h _ x.b _ tb3 (by omega) _ hb).mono ?_; rintro e w4 ⟨rfl, f4⟩
    have b4 := b3.trans (f4.mono (by omega))
    have z4 := f4.size
    have ca4 := cell_keep f4 ca3
    have cb4 := cell_keep f4 cb3
    have cc4 := cell_keep f4 cc3
    have ta4 := ta3.keep f4 (by omega)
    have tb4 := tb3.keep f4 (by omega)
    have tc4 := tc3.keep f4 (by omega)
    clear ca3 cb3 cc3 ta3 tb3 tc3
    have lca4 : w.heap.size < w4.heap.size := World.block_lt_of_cell? _ _ ca4
    go_wp2_with fail
    refine name_call fun w5 hw5 => ?_
    have b5 : Below w.heap.size w w5 := by rw [hw5]; (repeat (first | with_reducible exact Below.refl _ _ | with_reducible assumption | with_reducible refine Below.drew ?_ | with_reducible refine bdrewN ?_ _ | ((with_reducible refine balloc ?_ ?_ _); (focus (first | with_reducible exact Nat.le_refl _ | (simp; done) | omega | (simp; omega) | exact Nat.le_refl _))) | ((with_reducible refine bset ?_ ?_ _); (focus (first | with_reducible exact Nat.le_refl _ | (simp; done) | omega | (simp; omega) | exact Nat.le_refl _)))))
    have z5 : w4.heap.size + 0 ≤ w5.heap.size := by rw [hw5]; simp
    have e5 : Below w4.heap.size w4 w5 := by rw [hw5]; (repeat (first | with_reducible exact Below.refl _ _ | with_reducible assumption | with_reducible refine Below.drew ?_ | with_reducible refine bdrewN ?_ _ | ((with_reducible refine balloc ?_ ?_ _); (focus (first | with_reducible exact Nat.le_refl _ | (simp; done) | omega | (simp; omega) | exact Nat.le_refl _))) | ((with_reducible refine bset ?_ ?_ _); (focus (first | with_reducible exact Nat.le_refl _ | (simp; done) | omega | (simp; omega) | exact Nat.le_refl _)))))
    have ca5 := cell_keep e5 ca4
    have cb5 := cell_keep e5 cb4
    have cc5 := cell_keep e5 cc4
    have ta5 := ta4.keep e5 (by omega)
    have tb5 := tb4.keep e5 (by omega)
    have tc5 := tc4.keep e5 (by omega)
    clear hw5 lca4 ca4 cb4 cc4 ta4 tb4 tc4
    refine (lok_spec o l h _ x.c _ tc5 (by omega) _ hc).mono ?_; rintro e w6 ⟨rfl, f6⟩
    have b6 := b5.trans (f6.mono (by omega))
    have z6 := f6.size
    have ca6 := cell_keep f6 ca5
    have cb6 := cell_keep f6 cb5
    have cc6 := cell_keep f6 cc5
    have ta6 := ta5.keep f6 (by omega)
    have tb6 := tb5.keep f6 (by omega)
    have tc6 := tc5.keep f6 (by omega)
    clear ca5 cb5 cc5 ta5 tb5 tc5
    go_wp2_with fail
    go_ret
    exact ⟨ret_bool HR.out.symm, b6⟩
  cases ga : linW n x.a
  · have HR : Hid (conW n x = false) := Lib.hid (by simp [conW, ga])
    go_enter Try.func138, Try.ntmps138
    go_wp2_with fail
    refine name_call fun w1 hw1 => ?_
    have b1 : Below w.heap.size w w1 := by rw [hw1]; (repeat (first | with_reducible exact Below.refl _ _ | with_reducible assumption | with_reducible refine Below.drew ?_ | with_reducible refine bdrewN ?_ _ | ((with_reducible refine balloc ?_ ?_ _); (focus (first | with_reducible exact Nat.le_refl _ | (simp; done) | omega | (simp; omega) | exact Nat.le_refl _))) | ((with_reducible refine bset ?_ ?_ _); (focus (first | with_reducible exact Nat.le_refl _ | (simp; done) | omega | (simp; omega) | exact Nat.le_refl _)))))
    have z1 : w.heap.size + 1 ≤ w1.heap.size := by rw [hw1]; simp
    have e1 : Below w.heap.size w w1 := by rw [hw1]; (repeat (first | with_reducible exact Below.refl _ _ | with_reducible assumption | with_reducible refine Below.drew ?_ | with_reducible refine bdrewN ?_ _ | ((with_reducible refine balloc ?_ ?_ _); (focus (first | with_reducible exact Nat.le_refl _ | (simp; done) | omega | (simp; omega) | exact Nat.le_refl _))) | ((with_reducible refine bset ?_ ?_ _); (focus (first | with_reducible exact Nat.le_refl _ | (simp; done) | omega | (simp; omega) | exact Nat.le_refl _)))))
    have ca1 : w1.cell? ⟨w.heap.size, 0, none⟩ = some (.slice aa x.a.length ka) := by rw [hw1]; first | (simp; done) | go_simp
    have cb1 : w1.cell? ⟨w.heap.size, 1, none⟩ = some (.slice ab x.b.length kb) := by rw [hw1]; first | (simp; done) | go_simp
    have cc1 : w1.cell? ⟨w.heap.size, 2, none⟩ = some (.slice ac x.c.length kc) := by rw [hw1]; first | (simp; done) | go_simp
    have ta1 := ta.keep e1 (by omega)
    have tb1 := tb.keep e1 (by omega)
    have tc1 := tc.keep e1 (by omega)
    clear hw1
    refine (lok_spec o l h _ x.a _ ta1 (by omega) _ ha).mono ?_; rintro e w2 ⟨rfl, f2⟩
    have b2 := b1.trans (f2.mono (by omega))
    have z2 := f2.size
    have ca2 := cell_keep f2 ca1
    have cb2 := cell_keep f2 cb1
    have cc2 := cell_keep f2 cc1
    have ta2 := ta1.keep f2 (by omega)
    have tb2 := tb1.keep f2 (by omega)
    have tc2 := tc1.keep f2 (by omega)
    clear ca1 cb1 cc1 ta1 tb1 tc1
    have lca2 : w.heap.size < w2.heap.size := World.block_lt_of_cell? _ _ ca2
    go_wp2_with fail
    refine name_call fun w3 hw3 => ?_
    have b3 : Below w.heap.size w w3 := by rw [hw3]; (repeat (first | with_reducible exact Below.refl _ _ | with_reducible assumption | with_reducible refine Below.drew ?_ | with_reducible refine bdrewN ?_ _ | ((with_reducible refine balloc ?_ ?_ _); (focus (first | with_reducible exact Nat.le_refl _ | (simp; done) | omega | (simp; omega) | exact Nat.le_refl _))) | ((with_reducible refine bset ?_ ?_ _); (focus (first | with_reducible exact Nat.le_refl _ | (simp; done) | omega | (simp; omega) | exact Nat.le_refl _)))))
    have z3 : w2.heap.size + 0 ≤ w3.heap.size := by rw [hw3]; simp
    have e3 : Below w2.heap.size w2 w3 := by rw [hw3]; (repeat (first | with_reducible exact Below.refl _ _ | with_reducible assumption | with_reducible refine Below.drew ?_ | with_reducible refine bdrewN ?_ _ | ((with_reducible refine balloc ?_ ?_ _); (focus (first | with_reducible exact Nat.le_refl _ | (simp; done) | omega | (simp; omega) | exact Nat.le_refl _))) | ((with_reducible refine bset ?_ ?_ _); (focus (first | with_reducible exact Nat.le_refl _ | (simp; done) | omega | (simp; omega) | exact Nat.le_refl _)))))
    have ca3 := cell_keep e3 ca2
    have cb3 := cell_keep e3 cb2
    have cc3 := cell_keep e3 cc2
    have ta3 := ta2.keep e3 (by omega)
    have tb3 := tb2.keep e3 (by omega)
    have tc3 := tc2.keep e3 (by omega)
    clear hw3 lca2 ca2 cb2 cc2 ta2 tb2 tc2
    refine (lok_spec o l h _ x.b _ tb3 (by omega) _ hb).mono ?_; rintro e w4 ⟨rfl, f4⟩
    have b4 := b3.trans (f4.mono (by omega))
    have z4 := f4.size
    have ca4 := cell_keep f4 ca3
    have cb4 := cell_keep f4 cb3
    have cc4 := cell_keep f4 cc3
    have ta4 := ta3.keep f4 (by omega)
    have tb4 := tb3.keep f4 (by omega)
    have tc4 := tc3.keep f4 (by omega)
    clear ca3 cb3 cc3 ta3 tb3 tc3
    have lca4 : w.heap.size < w4.heap.size := World.block_lt_of_cell? _ _ ca4
    go_wp2_with fail
    refine name_call fun w5 hw5 => ?_
    have b5 : Below w.heap.size w w5 := by rw [hw5]; (repeat (first | with_reducible exact Below.refl _ _ | with_reducible assumption | with_reducible refine Below.drew ?_ | with_reducible refine bdrewN ?_ _ | ((with_reducible refine balloc ?_ ?_ _); (focus (first | with_reducible exact Nat.le_refl _ | (simp; done) | omega | (simp; omega) | exact Nat.le_refl _))) | ((with_reducible refine bset ?_ ?_ _); (focus (first | with_reducible exact Nat.le_refl _ | (simp; done) | omega | (simp; omega) | exact Nat.le_refl _)))))
    have z5 : w4.heap.size + 0 ≤ w5.heap.size := by rw [hw5]; simp
    have e5 : Below w4.heap.size w4 w5 := by rw [hw5]; (repeat (first | with_reducible exact Below.refl _ _ | with_reducible assumption | with_reducible refine Below.drew ?_ | with_reducible refine bdrewN ?_ _ | ((with_reducible refine balloc ?_ ?_ _); (focus (first | with_reducible exact Nat.le_refl _ | (simp; done) | omega | (simp; omega) | exact Nat.le_refl _))) | ((with_reducible refine bset ?_ ?_ _); (focus (first | with_reducible exact Nat.le_refl _ | (simp; done) | omega | (simp; omega) | exact Nat.le_refl _)))))
    have ca5 := cell_keep e5 ca4
    have cb5 := cell_keep e5 cb4
    have cc5 := cell_keep e5 cc4
    have ta5 := ta4.keep e5 (by omega)
    have tb5 := tb4.keep e5 (by omega)
    have tc5 := tc4.keep e5 (by omega)
    clear hw5 lca4 ca4 cb4 cc4 ta4 tb4 tc4
    refine (lok_spec o l h _ x.c _ tc5 (by omega) _ hc).mono ?_; rintro e w6 ⟨rfl, f6⟩
    have b6 := b5.trans (f6.mono (by omega))
    have z6 := f6.size
    have ca6 := cell_keep f6 ca5
    have cb6 := cell_keep f6 cb5
    have cc6 := cell_keep f6 cc5
    have ta6 := ta5.keep f6 (by omega)
    have tb6 := tb5.keep f6 (by omega)
    have tc6 := tc5.keep f6 (by omega)
    clear ca5 cb5 cc5 ta5 tb5 tc5
    have lca6 : w.heap.size < w6.heap.size := World.block_lt_of_cell? _ _ ca6
    go_wp2_with fail
    refine name_call fun w7 hw7 => ?_
    have b7 : Below w.heap.size w w7 := by rw [hw7]; (repeat (first | with_reducible exact Below.refl _ _ | with_reducible assumption | with_reducible refine Below.drew ?_ | with_reducible refine bdrewN ?_ _ | ((with_reducible refine balloc ?_ ?_ _); (focus (first | with_reducible exact Nat.le_refl _ | (simp; done) | omega | (simp; omega) | exact Nat.le_refl _))) | ((with_reducible refine bset ?_ ?_ _); (focus (first | with_reducible exact Nat.le_refl _ | (simp; done) | omega | (simp; omega) | exact Nat.le_refl _)))))
    have z7 : w6.heap.size + 0 ≤ w7.heap.size := by rw [hw7]; simp
    have e7 : Below w6.heap.size w6 w7 := by rw [hw7]; (repeat (first | with_reducible exact Below.refl _ _ | with_reducible assumption | with_reducible refine Below.drew ?_ | with_reducible refine bdrewN ?_ _ | ((with_reducible refine balloc ?_ ?_ _); (focus (first | with_reducible exact Nat.le_refl _ | (simp; done) | omega | (simp; omega) | exact Nat.le_refl _))) | ((with_reducible refine bset ?_ ?_ _); (focus (first | with_reducible exact Nat.le_refl _ | (simp; done) | omega | (simp; omega) | exact Nat.le_refl _)))))
    have ca7 := cell_keep e7 ca6
    have cb7 := cell_keep e7 cb6
    have cc7 := cell_keep e7 cc6
    have ta7 := ta6.keep e7 (by omega)
    have tb7 := tb6.keep e7 (by omega)
    have tc7 := tc6.keep e7 (by omega)
    clear hw7 lca6 ca6 cb6 cc6 ta6 tb6 tc6
    refine (l2w_any o l h _ x.a n _ ta7 (by omega) n0 n1 ha _ ga).mono ?_; rintro e w8 ⟨rfl, f8⟩
    have b8 := b7.trans (f8.mono (by omega))
    have z8 := f8.size
    have ca8 := cell_keep f8 ca7
    have cb8 := cell_keep f8 cb7
    have cc8 := cell_keep f8 cc7
    have ta8 := ta7.keep f8 (by omega)
    have tb8 := tb7.keep f8 (by omega)
    have tc8 := tc7.keep f8 (by omega)
    clear ca7 cb7 cc7 ta7 tb7 tc7
    go_wp2_with fail
    go_ret
    exact ⟨ret_bool HR.out.symm, b8⟩
  cases gb : linW n x.b
  · have HR : Hid (conW n x = false) := Lib.hid (by simp [conW, gb])
    go_enter Try.func138, Try.ntmps138
    go_wp2_with fail
    refine name_call fun w1 hw1 => ?_
    have b1 : Below w.heap.size w w1 := by rw [hw1]; (repeat (first | with_reducible exact Below.refl _ _ | with_reducible assumption | with_reducible refine Below.drew ?_ | with_reducible refine bdrewN ?_ _ | ((with_reducible refine balloc ?_ ?_ _); (focus (first | with_reducible exact Nat.le_refl _ | (simp; done) | omega | (simp; omega) | exact Nat.le_refl _))) | ((with_reducible refine bset ?_ ?_ _); (focus (first | with_reducible exact Nat.le_refl _ | (simp; done) | omega | (simp; omega) | exact Nat.le_refl _)))))
    have z1 : w.heap.size + 1 ≤ w1.heap.size := by rw [hw1]; simp
    have e1 : Below w.heap.size w w1 := by rw [hw1]; (repeat (first | with_reducible exact Below.refl _ _ | with_reducible assumption | with_reducible refine Below.drew ?_ | with_reducible refine bdrewN ?_ _ | ((with_reducible refine balloc ?_ ?_ _); (focus (first | with_reducible exact Nat.le_refl _ | (simp; done) | omega | (simp; omega) | exact Nat.le_refl _))) | ((with_reducible refine bset ?_ ?_ _); (focus (first | with_reducible exact Nat.le_refl _ | (simp; done) | omega | (simp; omega) | exact Nat.le_refl _)))))
    have ca1 : w1.cell? ⟨w.heap.size, 0, none⟩ = some (.slice aa x.a.length ka) := by rw [hw1]; first | (simp; done) | go_simp
    have cb1 : w1.cell? ⟨w.heap.size, 1, none⟩ = some (.slice ab x.b.length kb) := by rw [hw1]; first | (simp; done) | go_simp
    have cc1 : w1.cell? ⟨w.heap.size, 2, none⟩ = some (.slice ac x.c.length kc) := by rw [hw1]; first | (simp; done) | go_simp
    have ta1 := ta.keep e1 (by omega)
    have tb1 := tb.keep e1 (by omega)
    have tc1 := tc.keep e1 (by omega)
    clear hw1
    refine (lok_spec o l h _ x.a _ ta1 (by omega) _ ha).mono ?_; rintro e w2 ⟨rfl, f2⟩
    have b2 := b1.trans (f2.mono (by omega))
    have z2 := f2.size
    have ca2 := cell_keep f2 ca1
    have cb2 := cell_keep f2 cb1
    have cc2 := cell_keep f2 cc1
    have ta2 := ta1.keep f2 (by omega)
    have tb2 := tb1.keep f2 (by omega)
    have tc2 := tc1.keep f2 (by omega)
    clear ca1 cb1 cc1 ta1 tb1 tc1
    have lca2 : w.heap.size < w2.heap.size := World.block_lt_of_cell? _ _ ca2
    go_wp2_with fail
    refine name_call fun w3 hw3 => ?_
    have b3 : Below w.heap.size w w3 := by rw [hw3]; (repeat (first | with_reducible exact Below.refl _ _ | with_reducible assumption | with_reducible refine Below.drew ?_ | with_reducible refine bdrewN ?_ _ | ((with_reducible refine balloc ?_ ?_ _); (focus (first | with_reducible exact Nat.le_refl _ | (simp; done) | omega | (simp; omega) | exact Nat.le_refl _))) | ((with_reducible refine bset ?_ ?_ _); (focus (first | with_reducible exact Nat.le_refl _ | (simp; done) | omega | (simp; omega) | exact Nat.le_refl _)))))
    have z3 : w2.heap.size + 0 ≤ w3.heap.size := by rw [hw3]; simp
    have e3 : Below w2.heap.size w2 w3 := by rw [hw3]; (repeat (first | with_reducible exact Below.refl _ _ | with_reducible assumption | with_reducible refine Below.drew ?_ | with_reducible refine bdrewN ?_ _ | ((with_reducible refine balloc ?_ ?_ _); (focus (first | with_reducible exact Nat.le_refl _ | (simp; done) | omega | (simp; omega) | exact Nat.le_refl _))) | ((with_reducible refine bset ?_ ?_ _); (focus (first | with_reducible exact Nat.le_refl _ | (simp; done) | omega | (simp; omega) | exact Nat.le_refl _)))))
    have ca3 := cell_keep e3 ca2
    have cb3 := cell_keep e3 cb2
    have cc3 := cell_keep e3 cc2
    have ta3 := ta2.keep e3 (by omega)
    have tb3 := tb2.keep e3 (by omega)
    have tc3 := tc2.keep e3 (by omega)
    clear hw3 lca2 ca2 cb2 cc2 ta2 tb2 tc2
    refine (lok_spec o l h _ x.b _ tb3 (by omega) _ hb).mono ?_; rintro e w4 ⟨rfl, f4⟩
    have b4 := b3.trans (f4.mono (by omega))
    have z4 := f4.size
    have ca4 := cell_keep f4 ca3
    have cb4 := cell_keep f4 cb3
    have cc4 := cell_keep f4 cc3
    have ta4 := ta3.keep f4 (by omega)
    have tb4 := tb3.keep f4 (by omega)
    have tc4 := tc3.keep f4 (by omega)
    clear ca3 cb3 cc3 ta3 tb3 tc3
    have lca4 : w.heap.size < w4.heap.size := World.block_lt_of_cell? _ _ ca4
    go_wp2_with fail
    refine name_call fun w5 hw5 => ?_
    have b5 : Below w.heap.size w w5 := by rw [hw5]; (repeat (first | with_reducible exact Below.refl _ _ | with_reducible assumption | with_reducible refine Below.drew ?_ | with_reducible refine bdrewN ?_ _ | ((with_reducible refine balloc ?_ ?_ _); (focus (first | with_reducible exact Nat.le_refl _ | (simp; done) | omega | (simp; omega) | exact Nat.le_refl _))) | ((with_reducible refine bset ?_ ?_ _); (focus (first | with_reducible exact Nat.le_refl _ | (simp; done) | omega | (simp; omega) | exact Nat.le_refl _)))))
    have z5 : w4.heap.size + 0 ≤ w5.heap.size := by rw [hw5]; simp
    have e5 : Below w4.heap.size w4 w5 := by rw [hw5]; (repeat (first | with_reducible exact Below.refl _ _ | with_reducible assumption | with_reducible refine Below.drew ?_ | with_reducible refine bdrewN ?_ _ | ((with_reducible refine balloc ?_ ?_ _); (focus (first | with_reducible exact Nat.le_refl _ | (simp; done) | omega | (simp; omega) | exact Nat.le_refl _))) | ((with_reducible refine bset ?_ ?_ _); (focus (first | with_reducible exact Nat.le_refl _ | (simp; done) | omega | (simp; omega) | exact Nat.le_refl _)))))
    have ca5 := cell_keep e5 ca4
    have cb5 := cell_keep e5 cb4
    have cc5 := cell_keep e5 cc4
    have ta5 := ta4.keep e5 (by omega)
    have tb5 := tb4.keep e5 (by omega)
    have tc5 := tc4.keep e5 (by omega)
    clear hw5 lca4 ca4 cb4 cc4 ta4 tb4 tc4
    refine (lok_spec o l h _ x.c _ tc5 (by omega) _ hc).mono ?_; rintro e w6 ⟨rfl, f6⟩
    have b6 := b5.trans (f6.mono (by omega))
    have z6 := f6.size
    have ca6 := cell_keep f6 ca5
    have cb6 := cell_keep f6 cb5
    have cc6 := cell_keep f6 cc5
    have ta6 := ta5.keep f6 (by omega)
    have tb6 := tb5.keep f6 (by omega)
    have tc6 := tc5.keep f6 (by omega)
    clear ca5 cb5 cc5 ta5 tb5 tc5
    have lca6 : w.heap.size < w6.heap.size := World.block_lt_of_cell? _ _ ca6
    go_wp2_with fail
    refine name_call fun w7 hw7 => ?_
    have b7 : Below w.heap.size w w7 := by rw [hw7]; (repeat (first | with_reducible exact Below.refl _ _ | with_reducible assumption | with_reducible refine Below.drew ?_ | with_reducible refine bdrewN ?_ _ | ((with_reducible refine balloc ?_ ?_ _); (focus (first | with_reducible exact Nat.le_refl _ | (simp; done) | omega | (simp; omega) | exact Nat.le_refl _))) | ((with_reducible refine bset ?_ ?_ _); (focus (first | with_reducible exact Nat.le_refl _ | (simp; done) | omega | (simp; omega) | exact Nat.le_refl _)))))
    have z7 : w6.heap.size + 0 ≤ w7.heap.size := by rw [hw7]; simp
    have e7 : Below w6.heap.size w6 w7 := by rw [hw7]; (repeat (first | with_reducible exact Below.refl _ _ | with_reducible assumption | with_reducible refine Below.drew ?_ | with_reducible refine bdrewN ?_ _ | ((with_reducible refine balloc ?_ ?_ _); (focus (first | with_reducible exact Nat.le_refl _ | (simp; done) | omega | (simp; omega) | exact Nat.le_refl _))) | ((with_reducible refine bset ?_ ?_ _); (focus (first | with_reducible exact Nat.le_refl _ | (simp; done) | omega | (simp; omega) | exact Nat.le_refl _)))))
    have ca7 := cell_keep e7 ca6
    have cb7 := cell_keep e7 cb6
    have cc7 := cell_keep e7 cc6
    have ta7 := ta6.keep e7 (by omega)
    have tb7 := tb6.keep e7 (by omega)
    have tc7 := tc6.keep e7 (by omega)
    clear hw7 lca6 ca6 cb6 cc6 ta6 tb6 tc6
    refine (l2w_any o l h _ x.a n _ ta7 (by omega) n0 n1 ha _ ga).mono ?_; rintro e w8 ⟨rfl, f8⟩
    have b8 := b7.trans (f8.mono (by omega))
    have z8 := f8.size
    have ca8 := cell_keep f8 ca7
    have cb8 := cell_keep f8 cb7
    have cc8 := cell_keep f8 cc7
    have ta8 := ta7.keep f8 (by omega)
    have tb8 := tb7.keep f8 (by omega)
    have tc8 := tc7.keep f8 (by omega)
    clear ca7 cb7 cc7 ta7 tb7 tc7
    have lca8 : w.heap.size < w8.heap.size := World.block_lt_of_cell? _ _ ca8
    go_wp2_with fail
    refine name_call fun w9 hw9 => ?_
    have b9 : Below w.heap.size w w9 := by rw [hw9]; (repeat (first | with_reducible exact Below.refl _ _ | with_reducible assumption | with_reducible refine Below.drew ?_ | with_reducible refine bdrewN ?_ _ | ((with_reducible refine balloc ?_ ?_ _); (focus (first | with_reducible exact Nat.le_refl _ | (simp; done) | omega | (simp; omega) | exact Nat.le_refl _))) | ((with_reducible refine bset ?_ ?_ _); (focus (first | with_reducible exact Nat.le_refl _ | (simp; done) | omega | (simp; omega) | exact Nat.le_refl _)))))
    have z9 : w8.heap.size + 0 ≤ w9.heap.size := by rw [hw9]; simp
    have e9 : Below w8.heap.size w8 w9 := by rw [hw9]; (repeat (first | with_reducible exact Below.refl _ _ | with_reducible assumption | with_reducible refine Below.drew ?_ | with_reducible refine bdrewN ?_ _ | ((with_reducible refine balloc ?_ ?_ _); (focus (first | with_reducible exact Nat.le_refl _ | (simp; done) | omega | (simp; omega) | exact Nat.le_refl _))) | ((with_reducible refine bset ?_ ?_ _); (focus (first | with_reducible exact Nat.le_refl _ | (simp; done) | omega | (simp; omega) | exact Nat.le_refl _)))))
    have ca9 := cell_keep e9 ca8
    have cb9 := cell_keep e9 cb8
    have cc9 := cell_keep e9 cc8
    have ta9 := ta8.keep e9 (by omega)
    have tb9 := tb8.keep e9 (by omega)
    have tc9 := tc8.keep e9 (by omega)
    clear hw9 lca8 ca8 cb8 cc8 ta8 tb8 tc8
    refine (l2w_any o l h _ x.b n _ tb9 (by omega) n0 n1 hb _ gb).mono ?_; rintro e w10 ⟨rfl, f10⟩
    have b10 := b9.trans (f10.mono (by omega))
    have z10 := f10.size
    have ca10 := cell_keep f10 ca9
    have cb10 := cell_keep f10 cb9
    have cc10 := cell_keep f10 cc9
    have ta10 := ta9.keep f10 (by omega)
    have tb10 := tb9.keep f10 (by omega)
    have tc10 := tc9.keep f10 (by omega)
    clear ca9 cb9 cc9 ta9 tb9 tc9
    go_wp2_with fail
    go_ret
    exact ⟨ret_bool HR.out.symm, b10⟩
  cases gc : linW n x.c
  · have HR : Hid (conW n x = false) := Lib.hid (by simp [conW, gc])
    go_enter Try.func138, Try.ntmps138
    go_wp2_with fail
    refine name_call fun w1 hw1 => ?_
    have b1 : Below w.heap.size w w1 := by rw [hw1]; (repeat (first | with_reducible exact Below.refl _ _ | with_reducible assumption | with_reducible refine Below.drew ?_ | with_reducible refine bdrewN ?_ _ | ((with_reducible refine balloc ?_ ?_ _); (focus (first | with_reducible exact Nat.le_refl _ | (simp; done) | omega | (simp; omega) | exact Nat.le_refl _))) | ((with_reducible refine bset ?_ ?_ _); (focus (first | with_reducible exact Nat.le_refl _ | (simp; done) | omega | (simp; omega) | exact Nat.le_refl _)))))
    have z1 : w.heap.size + 1 ≤ w1.heap.size := by rw [hw1]; simp
    have e1 : Below w.heap.size w w1 := by rw [hw1]; (repeat (first | with_reducible exact Below.refl _ _ | with_reducible assumption | with_reducible refine Below.drew ?_ | with_reducible refine bdrewN ?_ _ | ((with_reducible refine balloc ?_ ?_ _); (focus (first | with_reducible exact Nat.le_refl _ | (simp; done) | omega | (simp; omega) | exact Nat.le_refl _))) | ((with_reducible refine bset ?_ ?_ _); (focus (first | with_reducible exact Nat.le_refl _ | (simp; done) | omega | (simp; omega) | exact Nat.le_refl _)))))
    have ca1 : w1.cell? ⟨w.heap.size, 0, none⟩ = some (.slice aa x.a.length ka) := by rw [hw1]; first | (simp; done) | go_simp
    have cb1 : w1.cell? ⟨w.heap.size, 1, none⟩ = some (.slice ab x.b.length kb) := by rw [hw1]; first | (simp; done) | go_simp
    have cc1 : w1.cell? ⟨w.heap.size, 2, none⟩ = some (.slice ac x.c.length kc) := by rw [hw1]; first | (simp; done) | go_simp
    have ta1 := ta.keep e1 (by omega)
    have tb1 := tb.keep e1 (by omega)
    have tc1 := tc.keep e1 (by omega)
    clear hw1
    refine (lok_spec o l h _ x.a _ ta1 (by omega) _ ha).mono ?_; rintro e w2 ⟨rfl, f2⟩
    have b2 := b1.trans (f2.mono (by omega))
    have z2 := f2.size
    have ca2 := cell_keep f2 ca1
    have cb2 := cell_keep f2 cb1
    have cc2 := cell_keep f2 cc1
    have ta2 := ta1.keep f2 (by omega)
    have tb2 := tb1.keep f2 (by omega)
    have tc2 := tc1.keep f2 (by omega)
    clear ca1 cb1 cc1 ta1 tb1 tc1
    have lca2 : w.heap.size < w2.heap.size := World.block_lt_of_cell? _ _ ca2
    go_wp2_with fail
    refine name_call fun w3 hw3 => ?_
    have b3 : Below w.heap.size w w3 := by rw [hw3]; (repeat (first | with_reducible exact Below.refl _ _ | with_reducible assumption | with_reducible refine Below.drew ?_ | with_reducible refine bdrewN ?_ _ | ((with_reducible refine balloc ?_ ?_ _); (focus (first | with_reducible exact Nat.le_refl _ | (simp; done) | omega | (simp; omega) | exact Nat.le_refl _))) | ((with_reducible refine bset ?_ ?_ _); (focus (first | with_reducible exact Nat.le_refl _ | (simp; done) | omega | (simp; omega) | exact Nat.le_refl _)))))
    have z3 : w2.heap.size + 0 ≤ w3.heap.size := by rw [hw3]; simp
    have e3 : Below w2.heap.size w2 w3 := by rw [hw3]; (repeat (first | with_reducible exact Below.refl _ _ | with_reducible assumption | with_reducible refine Below.drew ?_ | with_reducible refine bdrewN ?_ _ | ((with_reducible refine balloc ?_ ?_ _); (focus (first | with_reducible exact Nat.le_refl _ | (simp; done) | omega | (simp; omega) | exact Nat.le_refl _))) | ((with_reducible refine bset ?_ ?_ _); (focus (first | with_reducible exact Nat.le_refl _ | (simp; done) | omega | (simp; omega) | exact Nat.le_refl _)))))
    have ca3 := cell_keep e3 ca2
    have cb3 := cell_keep e3 cb2
    have cc3 := cell_keep e3 cc2
    have ta3 := ta2.keep e3 (by omega)
    have tb3 := tb2.keep e3 (by omega)
    have tc3 := tc2.keep e3 (by omega)
    clear hw3 lca2 ca2 cb2 cc2 ta2 tb2 tc2
    refine (lok_spec o l h _ x.b _ tb3 (by omega) _ hb).mono ?_; rintro e w4 ⟨rfl, f4⟩
    have b4 := b3.trans (f4.mono (by omega))
    have z4 := f4.size
    have ca4 := cell_keep f4 ca3
    have cb4 := cell_keep f4 cb3
    have cc4 := cell_keep f4 cc3
    have ta4 := ta3.keep f4 (by omega)
    have tb4 := tb3.keep f4 (by omega)
    have tc4 := tc3.keep f4 (by omega)
    clear ca3 cb3 cc3 ta3 tb3 tc3
    have lca4 : w.heap.size < w4.heap.size := World.block_lt_of_cell? _ _ ca4
    go_wp2_with fail
    refine name_call fun w5 hw5 => ?_
    have b5 : Below w.heap.size w w5 := by rw [hw5]; (repeat (first | with_reducible exact Below.refl _ _ | with_reducible assumption | with_reducible refine Below.drew ?_ | with_reducible refine bdrewN ?_ _ | ((with_reducible refine balloc ?_ ?_ _); (focus (first | with_reducible exact Nat.le_refl _ | (simp; done) | omega | (simp; omega) | exact Nat.le_refl _))) | ((with_reducible refine bset ?_ ?_ _); (focus (first | with_reducible exact Nat.le_refl _ | (simp; done) | omega | (simp; omega) | exact Nat.le_refl _)))))
    have z5 : w4.heap.size + 0 ≤ w5.heap.size := by rw [hw5]; simp
    have e5 : Below w4.heap.size w4 w5 := by rw [hw5]; (repeat (first | with_reducible exact Below.refl _ _ | with_reducible assumption | with_reducible refine Below.drew ?_ | with_reducible refine bdrewN ?_ _ | ((with_reducible refine balloc ?_ ?_ _); (focus (first | with_reducible exact Nat.le_refl _ | (simp; done) | omega | (simp; omega) | exact Nat.le_refl _))) | ((with_reducible refine bset ?_ ?_ _); (focus (first | with_reducible exact Nat.le_refl _ | (simp; done) | omega | (simp; omega) | exact Nat.le_refl _)))))
    have ca5 := cell_keep e5 ca4
    have cb5 := cell_keep e5 cb4
    have cc5 := cell_keep e5 cc4
    have ta5 := ta4.keep e5 (by omega)
    have tb5 := tb4.keep e5 (by omega)
    have tc5 := tc4.keep e5 (by omega)
    clear hw5 lca4 ca4 cb4 cc4 ta4 tb4 tc4
    refine (lok_spec o l h _ x.c _ tc5 (by omega) _ hc).mono ?_; rintro e w6 ⟨rfl, f6⟩
    have b6 := b5.trans (f6.mono (by omega))
    have z6 := f6.size
    have ca6 := cell_keep f6 ca5
    have cb6 := cell_keep f6 cb5
    have cc6 := cell_keep f6 cc5
    have ta6 := ta5.keep f6 (by omega)
    have tb6 := tb5.keep f6 (by omega)
    have tc6 := tc5.keep f6 (by omega)
    clear ca5 cb5 cc5 ta5 tb5 tc5
    have lca6 : w.heap.size < w6.heap.size := World.block_lt_of_cell? _ _ ca6
    go_wp2_with fail
    refine name_call fun w7 hw7 => ?_
    have b7 : Below w.heap.size w w7 := by rw [hw7]; (repeat (first | with_reducible exact Below.refl _ _ | with_reducible assumption | with_reducible refine Below.drew ?_ | with_reducible refine bdrewN ?_ _ | ((with_reducible refine balloc ?_ ?_ _); (focus (first | with_reducible exact Nat.le_refl _ | (simp; done) | omega | (simp; omega) | exact Nat.le_refl _))) | ((with_reducible refine bset ?_ ?_ _); (focus (first | with_reducible exact Nat.le_refl _ | (simp; done) | omega | (simp; omega) | exact Nat.le_refl _)))))
    have z7 : w6.heap.size + 0 ≤ w7.heap.size := by rw [hw7]; simp
    have e7 : Below w6.heap.size w6 w7 := by rw [hw7]; (repeat (first | with_reducible exact Below.refl _ _ | with_reducible assumption | with_reducible refine Below.drew ?_ | with_reducible refine bdrewN ?_ _ | ((with_reducible refine balloc ?_ ?_ _); (focus (first | with_reducible exact Nat.le_refl _ | (simp; done) | omega | (simp; omega) | exact Nat.le_refl _))) | ((with_reducible refine bset ?_ ?_ _); (focus (first | with_reducible exact Nat.le_refl _ | (simp; done) | omega | (simp; omega) | exact Nat.le_refl _)))))
    have ca7 := cell_keep e7 ca6
    have cb7 := cell_keep e7 cb6
    have cc7 := cell_keep e7 cc6
    have ta7 := ta6.keep e7 (by omega)
    have tb7 := tb6.keep e7 (by omega)
    have tc7 := tc6.keep e7 (by omega)
    clear hw7 lca6 ca6 cb6 cc6 ta6 tb6 tc6
    refine (l2w_any o l h _ x.a n _ ta7 (by omega) n0 n1 ha _ ga).mono ?_; rintro e w8 ⟨rfl, f8⟩
    have b8 := b7.trans (f8.mono (by omega))
    have z8 := f8.size
    have ca8 := cell_keep f8 ca7
    have cb8 := cell_keep f8 cb7
    have cc8 := cell_keep f8 cc7
    have ta8 := ta7.keep f8 (by omega)
    have tb8 := tb7.keep f8 (by omega)
    have tc8 := tc7.keep f8 (by omega)
    clear ca7 cb7 cc7 ta7 tb7 tc7
    have lca8 : w.heap.size < w8.heap.size := World.block_lt_of_cell? _ _ ca8
    go_wp2_with fail
    refine name_call fun w9 hw9 => ?_
    have b9 : Below w.heap.size w w9 := by rw [hw9]; (repeat (first | with_reducible exact Below.refl _ _ | with_reducible assumption | with_reducible refine Below.drew ?_ | with_reducible refine bdrewN ?_ _ | ((with_reducible refine balloc ?_ ?_ _); (focus (first | with_reducible exact Nat.le_refl _ | (simp; done) | omega | (simp; omega) | exact Nat.le_refl _))) | ((with_reducible refine bset ?_ ?_ _); (focus (first | with_reducible exact Nat.le_refl _ | (simp; done) | omega | (simp; omega) | exact Nat.le_refl _)))))
    have z9 : w8.heap.size + 0 ≤ w9.heap.size := by rw [hw9]; simp
    have e9 : Below w8.heap.size w8 w9 := by rw [hw9]; (repeat (first | with_reducible exact Below.refl _ _ | with_reducible assumption | with_reducible refine Below.drew ?_ | with_reducible refine bdrewN ?_ _ | ((with_reducible refine balloc ?_ ?_ _); (focus (first | with_reducible exact Nat.le_refl _ | (simp; done) | omega | (simp; omega) | exact Nat.le_refl _))) | ((with_reducible refine bset ?_ ?_ _); (focus (first | with_reducible exact Nat.le_refl _ | (simp; done) | omega | (simp; omega) | exact Nat.le_refl _)))))
    have ca9 := cell_keep e9 ca8
    have cb9 := cell_keep e9 cb8
    have cc9 := cell_keep e9 cc8
    have ta9 := ta8.keep e9 (by omega)
    have tb9 := tb8.keep e9 (by omega)
    have tc9 := tc8.keep e9 (by omega)
    clear hw9 lca8 ca8 cb8 cc8 ta8 tb8 tc8
    refine (l2w_any o l h _ x.b n _ tb9 (by omega) n0 n1 hb _ gb).mono ?_; rintro e w10 ⟨rfl, f10⟩
    have b10 := b9.trans (f10.mono (by omega))
    have z10 := f10.size
    have ca10 := cell_keep f10 ca9
    have cb10 := cell_keep f10 cb9
    have cc10 := cell_keep f10 cc9
    have ta10 := ta9.keep f10 (by omega)
    have tb10 := tb9.keep f10 (by omega)
    have tc10 := tc9.keep f10 (by omega)
    clear ca9 cb9 cc9 ta9 tb9 tc9
    have lca10 : w.heap.size < w10.heap.size := World.block_lt_of_cell? _ _ ca10
    go_wp2_with fail
    refine name_call fun w11 hw11 => ?_
    have b11 : Below w.heap.size w w11 := by rw [hw11]; (repeat (first | with_reducible exact Below.refl _ _ | with_reducible assumption | with_reducible refine Below.drew ?_ | with_reducible refine bdrewN ?_ _ | ((with_reducible refine balloc ?_ ?_ _); (focus (first | with_reducible exact Nat.le_refl _ | (simp; done) | omega | (simp; omega) | exact Nat.le_refl _))) | ((with_reducible refine bset ?_ ?_ _); (focus (first | with_reducible exact Nat.le_refl _ | (simp; done) | omega | (simp; omega) | exact Nat.le_refl _)))))
    have z11 : w10.heap.size + 0 ≤ w11.heap.size := by rw [hw11]; simp
    have e11 : Below w10.heap.size w10 w11 := by rw [hw11]; (repeat (first | with_reducible exact Below.refl _ _ | with_reducible assumption | with_reducible refine Below.drew ?_ | with_reducible refine bdrewN ?_ _ | ((with_reducible refine balloc ?_ ?_ _); (focus (first | with_reducible exact Nat.le_refl _ | (simp; done) | omega | (simp; omega) | exact Nat.le_refl _))) | ((with_reducible refine bset ?_ ?_ _); (focus (first | with_reducible exact Nat.le_refl _ | (simp; done) | omega | (simp; omega) | exact Nat.le_refl _)))))
    have ca11 := cell_keep e11 ca10
    have cb11 := cell_keep e11 cb10
    have cc11 := cell_keep e11 cc10
    have ta11 := ta10.keep e11 (by omega)
    have tb11 := tb10.keep e11 (by omega)
    have tc11 := tc10.keep e11 (by omega)
    clear hw11 lca10 ca10 cb10 cc10 ta10 tb10 tc10
    refine (l2w_any o l h _ x.c n _ tc11 (by omega) n0 n1 hc _ gc).mono ?_; rintro e w12 ⟨rfl, f12⟩
    have b12 := b11.trans (f12.mono (by omega))
    have z12 := f12.size
    have ca12 := cell_keep f12 ca11
    have cb12 := cell_keep f12 cb11
    have cc12 := cell_keep f12 cc11
    have ta12 := ta11.keep f12 (by omega)
    have tb12 := tb11.keep f12 (by omega)
    have tc12 := tc11.keep f12 (by omega)
    clear ca11 cb11 cc11 ta11 tb11 tc11
    go_wp2_with fail
    go_ret
    exact ⟨ret_bool HR.out.symm, b12⟩
  · have HR : Hid (conW n x = true) := Lib.hid (by simp [conW, ga, gb, gc])
    go_enter Try.func138, Try.ntmps138
    go_wp2_with fail
    refine name_call fun w1 hw1 => ?_
    have b1 : Below w.heap.size w w1 := by rw [hw1]; (repeat (first | with_reducible exact Below.refl _ _ | with_reducible assumption | with_reducible refine Below.drew ?_ | with_reducible refine bdrewN ?_ _ | ((with_reducible refine balloc ?_ ?_ _); (focus (first | with_reducible exact Nat.le_refl _ | (simp; done) | omega | (simp; omega) | exact Nat.le_refl _))) | ((with_reducible refine bset ?_ ?_ _); (focus (first | with_reducible exact Nat.le_refl _ | (simp; done) | omega | (simp; omega) | exact Nat.le_refl _)))))
    have z1 : w.heap.size + 1 ≤ w1.heap.size := by rw [hw1]; simp
    have e1 : Below w.heap.size w w1 := by rw [hw1]; (repeat (first | with_reducible exact Below.refl _ _ | with_reducible assumption | with_reducible refine Below.drew ?_ | with_reducible refine bdrewN ?_ _ | ((with_reducible refine balloc ?_ ?_ _); (focus (first | with_reducible exact Nat.le_refl _ | (simp; done) | omega | (simp; omega) | exact Nat.le_refl _))) | ((with_reducible refine bset ?_ ?_ _); (focus (first | with_reducible exact Nat.le_refl _ | (simp; done) | omega | (simp; omega) | exact Nat.le_refl _)))))
    have ca1 : w1.cell? ⟨w.heap.size, 0, none⟩ = some (.slice aa x.a.length ka) := by rw [hw1]; first | (simp; done) | go_simp
    have cb1 : w1.cell? ⟨w.heap.size, 1, none⟩ = some (.slice ab x.b.length kb) := by rw [hw1]; first | (simp; done) | go_simp
    have cc1 : w1.cell? ⟨w.heap.size, 2, none⟩ = some (.slice ac x.c.length kc) := by rw [hw1]; first | (simp; done) | go_simp
    have ta1 := ta.keep e1 (by omega)
    have tb1 := tb.keep e1 (by omega)
    have tc1 := tc.keep e1 (by omega)
    clear hw1
    refine (lok_spec o l h _ x.a _ ta1 (by omega) _ ha).mono ?_; rintro e w2 ⟨rfl, f2⟩
    have b2 := b1.trans (f2.mono (by omega))
    have z2 := f2.size
    have ca2 := cell_keep f2 ca1
    have cb2 := cell_keep f2 cb1
    have cc2 := cell_keep f2 cc1
    have ta2 := ta1.keep f2 (by omega)
    have tb2 := tb1.keep f2 (by omega)
    have tc2 := tc1.keep f2 (by omega)
    clear ca1 cb1 cc1 ta1 tb1 tc1
    have lca2 : w.heap.size < w2.heap.size := World.block_lt_of_cell? _ _ ca2
    go_wp2_with fail
    refine name_call fun w3 hw3 => ?_
    have b3 : Below w.heap.size w w3 := by rw [hw3]; (repeat (first | with_reducible exact Below.refl _ _ | with_reducible assumption | with_reducible refine Below.drew ?_ | with_reducible refine bdrewN ?_ _ | ((with_reducible refine balloc ?_ ?_ _); (focus (first | with_reducible exact Nat.le_refl _ | (simp; done) | omega | (simp; omega) | exact Nat.le_refl _))) | ((with_reducible refine bset ?_ ?_ _); (focus (first | with_reducible exact Nat.le_refl _ | (simp; done) | omega | (simp; omega) | exact Nat.le_refl _)))))
    have z3 : w2.heap.size + 0 ≤ w3.heap.size := by rw [hw3]; simp
    have e3 : Below w2.heap.size w2 w3 := by rw [hw3]; (repeat (first | with_reducible exact Below.refl _ _ | with_reducible assumption | with_reducible refine Below.drew ?_ | with_reducible refine bdrewN ?_ _ | ((with_reducible refine balloc ?_ ?_ _); (focus (first | with_reducible exact Nat.le_refl _ | (simp; done) | omega | (simp; omega) | exact Nat.le_refl _))) | ((with_reducible refine bset ?_ ?_ _); (focus (first | with_reducible exact Nat.le_refl _ | (simp; done) | omega | (simp; omega) | exact Nat.le_refl _)))))
    have ca3 := cell_keep e3 ca2
    have cb3 := cell_keep e3 cb2
    have cc3 := cell_keep e3 cc2
    have ta3 := ta2.keep e3 (by omega)
    have tb3 := tb2.keep e3 (by omega)
    have tc3 := tc2.keep e3 (by omega)
    clear hw3 lca2 ca2 cb2 cc2 ta2 tb2 tc2
    refine (lok_spec o l h _ x.b _ tb3 (by omega) _ hb).mono ?_; rintro e w4 ⟨rfl, f4⟩
    have b4 := b3.trans (f4.mono (by omega))
    have z4 := f4.size
    have ca4 := cell_keep f4 ca3
    have cb4 := cell_keep f4 cb3
    have cc4 := cell_keep f4 cc3
    have ta4 := ta3.keep f4 (by omega)
    have tb4 := tb3.keep f4 (by omega)
    have tc4 := tc3.keep f4 (by omega)
    clear ca3 cb3 cc3 ta3 tb3 tc3
    have lca4 : w.heap.size < w4.heap.size := World.block_lt_of_cell? _ _ ca4
    go_wp2_with fail
    refine name_call fun w5 hw5 => ?_
    have b5 : Below w.heap.size w w5 := by rw [hw5]; (repeat (first | with_reducible exact Below.refl _ _ | with_reducible assumption | with_reducible refine Below.drew ?_ | with_reducible refine bdrewN ?_ _ | ((with_reducible refine balloc ?_ ?_ _); (focus (first | with_reducible exact Nat.le_refl _ | (simp; done) | omega | (simp; omega) | exact Nat.le_refl _))) | ((with_reducible refine bset ?_ ?_ _); (focus (first | with_reducible exact Nat.le_refl _ | (simp; done) | omega | (simp; omega) | exact Nat.le_refl _)))))
    have z5 : w4.heap.size + 0 ≤ w5.heap.size := by rw [hw5]; simp
    have e5 : Below w4.heap.size w4 w5 := by rw [hw5]; (repeat (first | with_reducible exact Below.refl _ _ | with_reducible assumption | with_reducible refine Below.drew ?_ | with_reducible refine bdrewN ?_ _ | ((with_reducible refine balloc ?_ ?_ _); (focus (first | with_reducible exact Nat.le_refl _ | (simp; done) | omega | (simp; omega) | exact Nat.le_refl _))) | ((with_reducible refine bset ?_ ?_ _); (focus (first | with_reducible exact Nat.le_refl _ | (simp; done) | omega | (simp; omega) | exact Nat.le_refl _)))))
    have ca5 := cell_keep e5 ca4
    have cb5 := cell_keep e5 cb4
    have cc5 := cell_keep e5 cc4
    have ta5 := ta4.keep e5 (by omega)
    have tb5 := tb4.keep e5 (by omega)
    have tc5 := tc4.keep e5 (by omega)
    clear hw5 lca4 ca4 cb4 cc4 ta4 tb4 tc4
    refine (lok_spec o l h _ x.c _ tc5 (by omega) _ hc).mono ?_; rintro e w6 ⟨rfl, f6⟩
    have b6 := b5.trans (f6.mono (by omega))
    have z6 := f6.size
    have ca6 := cell_keep f6 ca5
    have cb6 := cell_keep f6 cb5
    have cc6 := cell_keep f6 cc5
    have ta6 := ta5.keep f6 (by omega)
    have tb6 := tb5.keep f6 (by omega)
    have tc6 := tc5.keep f6 (by omega)
    clear ca5 cb5 cc5 ta5 tb5 tc5
    have lca6 : w.heap.size < w6.heap.size := World.block_lt_of_cell? _ _ ca6
    go_wp2_with fail
    refine name_call fun w7 hw7 => ?_
    have b7 : Below w.heap.size w w7 := by rw [hw7]; (repeat (first | with_reducible exact Below.refl _ _ | with_reducible assumption | with_reducible refine Below.drew ?_ | with_reducible refine bdrewN ?_ _ | ((with_reducible refine balloc ?_ ?_ _); (focus (first | with_reducible exact Nat.le_refl _ | (simp; done) | omega | (simp; omega) | exact Nat.le_refl _))) | ((with_reducible refine bset ?_ ?_ _); (focus (first | with_reducible exact Nat.le_refl _ | (simp; done) | omega | (simp; omega) | exact Nat.le_refl _)))))
    have z7 : w6.heap.size + 0 ≤ w7.heap.size := by rw [hw7]; simp
    have e7 : Below w6.heap.size w6 w7 := by rw [hw7]; (repeat (first | with_reducible exact Below.refl _ _ | with_reducible assumption | with_reducible refine Below.drew ?_ | with_reducible refine bdrewN ?_ _ | ((with_reducible refine balloc ?_ ?_ _); (focus (first | with_reducible exact Nat.le_refl _ | (simp; done) | omega | (simp; omega) | exact Nat.le_refl _))) | ((with_reducible refine bset ?_ ?_ _); (focus (first | with_reducible exact Nat.le_refl _ | (simp; done) | omega | (simp; omega) | exact Nat.le_refl _)))))
    have ca7 := cell_keep e7 ca6
    have cb7 := cell_keep e7 cb6
    have cc7 := cell_keep e7 cc6
    have ta7 := ta6.keep e7 (by omega)
    have tb7 := tb6.keep e7 (by omega)
    have tc7 := tc6.keep e7 (by omega)
    clear hw7 lca6 ca6 cb6 cc6 ta6 tb6 tc6
    refine (l2w_any o l h _ x.a n _ ta7 (by omega) n0 n1 ha _ ga).mono ?_; rintro e w8 ⟨rfl, f8⟩
    have b8 := b7.trans (f8.mono (by omega))
    have z8 := f8.size
    have ca8 := cell_keep f8 ca7
    have cb8 := cell_keep f8 cb7
    have cc8 := cell_keep f8 cc7
    have ta8 := ta7.keep f8 (by omega)
    have tb8 := tb7.keep f8 (by omega)
    have tc8 := tc7.keep f8 (by omega)
    clear ca7 cb7 cc7 ta7 tb7 tc7
    have lca8 : w.heap.size < w8.heap.size := World.block_lt_of_cell? _ _ ca8
    go_wp2_with fail
    refine name_call fun w9 hw9 => ?_
    have b9 : Below w.heap.size w w9 := by rw [hw9]; (repeat (first | with_reducible exact Below.refl _ _ | with_reducible assumption | with_reducible refine Below.drew ?_ | with_reducible refine bdrewN ?_ _ | ((with_reducible refine balloc ?_ ?_ _); (focus (first | with_reducible exact Nat.le_refl _ | (simp; done) | omega | (simp; omega) | exact Nat.le_refl _))) | ((with_reducible refine bset ?_ ?_ _); (focus (first | with_reducible exact Nat.le_refl _ | (simp; done) | omega | (simp; omega) | exact Nat.le_refl _)))))
    have z9 : w8.heap.size + 0 ≤ w9.heap.size := by rw [hw9]; simp
    have e9 : Below w8.heap.size w8 w9 := by rw [hw9]; (repeat (first | with_reducible exact Below.refl _ _ | with_reducible assumption | with_reducible refine Below.drew ?_ | with_reducible refine bdrewN ?_ _ | ((with_reducible refine balloc ?_ ?_ _); (focus (first | with_reducible exact Nat.le_refl _ | (simp; done) | omega | (simp; omega) | exact Nat.le_refl _))) | ((with_reducible refine bset ?_ ?_ _); (focus (first | with_reducible exact Nat.le_refl _ | (simp; done) | omega | (simp; omega) | exact Nat.le_refl _)))))
    have ca9 := cell_keep e9 ca8
    have cb9 := cell_keep e9 cb8
    have cc9 := cell_keep e9 cc8
    have ta9 := ta8.keep e9 (by omega)
    have tb9 := tb8.keep e9 (by omega)
    have tc9 := tc8.keep e9 (by omega)
    clear hw9 lca8 ca8 cb8 cc8 ta8 tb8 tc8
    refine (l2w_any o l h _ x.b n _ tb9 (by omega) n0 n1 hb _ gb).mono ?_; rintro e w10 ⟨rfl, f10⟩
    have b10 := b9.trans (f10.mono (by omega))
    have z10 := f10.size
    have ca10 := cell_keep f10 ca9
    have cb10 := cell_keep f10 cb9
    have cc10 := cell_keep f10 cc9
    have ta10 := ta9.keep f10 (by omega)
    have tb10 := tb9.keep f10 (by omega)
    have tc10 := tc9.keep f10 (by omega)
    clear ca9 cb9 cc9 ta9 tb9 tc9
    have lca10 : w.heap.size < w10.heap.size := World.block_lt_of_cell? _ _ ca10
    go_wp2_with fail
    refine name_call fun w11 hw11 => ?_
    have b11 : Below w.heap.size w w11 := by rw [hw11]; (repeat (first | with_reducible exact Below.refl _ _ | with_reducible assumption | with_reducible refine Below.drew ?_ | with_reducible refine bdrewN ?_ _ | ((with_reducible refine balloc ?_ ?_ _); (focus (first | with_reducible exact Nat.le_refl _ | (simp; done) | omega | (simp; omega) | exact Nat.le_refl _))) | ((with_reducible refine bset ?_ ?_ _); (focus (first | with_reducible exact Nat.le_refl _ | (simp; done) | omega | (simp; omega) | exact Nat.le_refl _)))))
    have z11 : w10.heap.size + 0 ≤ w11.heap.size := by rw [hw11]; simp
    have e11 : Below w10.heap.size w10 w11 := by rw [hw11]; (repeat (first | with_reducible exact Below.refl _ _ | with_reducible assumption | with_reducible refine Below.drew ?_ | with_reducible refine bdrewN ?_ _ | ((with_reducible refine balloc ?_ ?_ _); (focus (first | with_reducible exact Nat.le_refl _ | (simp; done) | omega | (simp; omega) | exact Nat.le_refl _))) | ((with_reducible refine bset ?_ ?_ _); (focus (first | with_reducible exact Nat.le_refl _ | (simp; done) | omega | (simp; omega) | exact Nat.le_refl _)))))
    have ca11 := cell_keep e11 ca10
    have cb11 := cell_keep e11 cb10
    have cc11 := cell_keep e11 cc10
    have ta11 := ta10.keep e11 (by omega)
    have tb11 := tb10.keep e11 (by omega)
    have tc11 := tc10.keep e11 (by omega)
    clear hw11 lca10 ca10 cb10 cc10 ta10 tb10 tc10
    refine (l2w_any o l h _ x.c n _ tc11 (by omega) n0 n1 hc _ gc).mono ?_; rintro e w12 ⟨rfl, f12⟩
    have b12 := b11.trans (f12.mono (by omega))
    have z12 := f12.size
    have ca12 := cell_keep f12 ca11
    have cb12 := cell_keep f12 cb11
    have cc12 := cell_keep f12 cc11
    have ta12 := ta11.keep f12 (by omega)
    have tb12 := tb11.keep f12 (by omega)
    have tc12 := tc11.keep f12 (by omega)
    clear ca11 cb11 cc11 ta11 tb11 tc11
    go_wp2_with fail
    go_ret
    exact ⟨ret_bool HR.out.symm, b12⟩

set_option maxRecDepth 100000 in
set_option maxHeartbeats 6400000 in
theorem l3hint_any (o l h va vb) (x : HintC) (n : Int) (w : World) (ta : Terms o l h w va x.a) (tb : Terms o l h w vb x.b) (fk : Fits x.k) (hw : h ≤ w.heap.size) (n0 : 0 ≤ n) (n1 : n ≤ 1000000) :
    Calls Try.prog 137 #[.agg #[.int .i64 x.kind, va, vb, .int .i64 x.k], .int .i64 n] w fun e w' => e = .returned (.bool (hintW n x)) ∧ Below w.heap.size w w' := by
  obtain ⟨aa, ka, rfl, laa, baa⟩ := ta.shape
  obtain ⟨ab, kb, rfl, lab, bab⟩ := tb.shape
  have kf : ∀ {P : Prop} [Decidable P], ¬ P → decide P = false := fun h => decide_eq_false h
  by_cases u0 : x.kind < 0
  · have HR : Hid (hintW n x = false) := Lib.hid (by simp [hintW, show kindOk x = false from kf (by omega)])
    clear kf
    go_enter Try.func137, Try.ntmps137
    go_wp2_with fail
    go_ret
    exact ⟨ret_bool HR.out.symm, by (repeat (first | with_reducible exact Below.refl _ _ | with_reducible assumption | with_reducible refine Below.drew ?_ | with_reducible refine bdrewN ?_ _ | ((with_reducible refine balloc ?_ ?_ _); (focus (first | with_reducible exact Nat.le_refl _ | (simp; done) | omega | (simp; omega) | exact Nat.le_refl _))) | ((with_reducible refine bset ?_ ?_ _); (focus (first | with_reducible exact Nat.le_refl _ | (simp; done) | omega | (simp; omega) | exact Nat.le_refl _)))))⟩
  by_cases u1 : x.kind > 3
  · have HR : Hid (hintW n x = false) := Lib.hid (by simp [hintW, show kindOk x = false from kf (by omega)])
    clear kf
    go_enter Try.func137, Try.ntmps137
    go_wp2_with fail
    go_ret
    exact ⟨ret_bool HR.out.symm, by (repeat (first | with_reducible exact Below.refl _ _ | with_reducible assumption | with_reducible refine Below.drew ?_ | with_reducible refine bdrewN ?_ _ | ((with_reducible refine balloc ?_ ?_ _); (focus (first | with_reducible exact Nat.le_refl _ | (simp; done) | omega | (simp; omega) | exact Nat.le_refl _))) | ((with_reducible refine bset ?_ ?_ _); (focus (first | with_reducible exact Nat.le_refl _ | (simp; done) | omega | (simp; omega) | exact Nat.le_refl _)))))⟩
  have v0 : decide (x.kind < 0) = false := kf u0
  have v1 : decide (x.kind > 3) = false := kf u1
  cases ha : linOk x.a
  · have HR : Hid (hintW n x = false) := Lib.hid (by simp [hintW, linW_no ha])
    clear kf
    go_enter Try.func137, Try.ntmps137
    go_wp2_with fail
    refine name_call fun w1 hw1 => ?_
    have b1 : Below w.heap.size w w1 := by rw [hw1]; (repeat (first | with_reducible exact Below.refl _ _ | with_reducible assumption | with_reducible refine Below.drew ?_ | with_reducible refine bdrewN ?_ _ | ((with_reducible refine balloc ?_ ?_ _); (focus (first | with_reducible exact Nat.le_refl _ | (simp; done) | omega | (simp; omega) | exact Nat.le_refl _))) | ((with_reducible refine bset ?_ ?_ _); (focus (first | with_reducible exact Nat.le_refl _ | (simp; done) | omega | (simp; omega) | exact Nat.le_refl _)))))
    have z1 : w.heap.size + 1 ≤ w1.heap.size := by rw [hw1]; simp
    have e1 : Below w.heap.size w w1 := by rw [hw1]; (repeat (first | with_reducible exact Below.refl _ _ | with_reducible assumption | with_reducible refine Below.drew ?_ | with_reducible refine bdrewN ?_ _ | ((with_reducible refine balloc ?_ ?_ _); (focus (first | with_reducible exact Nat.le_refl _ | (simp; done) | omega | (simp; omega) | exact Nat.le_refl _))) | ((with_reducible refine bset ?_ ?_ _); (focus (first | with_reducible exact Nat.le_refl _ | (simp; done) | omega | (simp; omega) | exact Nat.le_refl _)))))
    have ci1 : w1.cell? ⟨w.heap.size, 0, none⟩ = some (.int .i64 x.kind) := by rw [hw1]; first | (simp; done) | go_simp
    have ca1 : w1.cell? ⟨w.heap.size, 1, none⟩ = some (.slice aa x.a.length ka) := by rw [hw1]; first | (simp; done) | go_simp
    have cb1 : w1.cell? ⟨w.heap.size, 2, none⟩ = some (.slice ab x.b.length kb) := by rw [hw1]; first | (simp; done) | go_simp
    have ck1 : w1.cell? ⟨w.heap.size, 3, none⟩ = some (.int .i64 x.k) := by rw [hw1]; first | (simp; done) | go_simp
    have ta1 := ta.keep e1 (by omega)
    have tb1 := tb.keep e1 (by omega)
    clear hw1
    refine (lok_spec o l h _ x.a _ ta1 (by omega) _ ha).mono ?_; rintro e w2 ⟨rfl, f2⟩
    have b2 := b1.trans (f2.mono (by omega))
    have z2 := f2.size
    have ci2 := cell_keep f2 ci1
    have ca2 := cell_keep f2 ca1
    have cb2 := cell_keep f2 cb1
    have ck2 := cell_keep f2 ck1
    have ta2 := ta1.keep f2 (by omega)
    have tb2 := tb1.keep f2 (by omega)
    clear ci1 ca1 cb1 ck1 ta1 tb1
    go_wp2_with fail
    go_ret
    exact ⟨ret_bool HR.out.symm, b2⟩
  cases hb : linOk x.b
  · have HR : Hid (hintW n x = false) := Lib.hid (by simp [hintW, linW_no hb])
    clear kf
    go_enter Try.func137, Try.ntmps137
    go_wp2_with fail
    refine name_call fun w1 hw1 => ?_
    have b1 : Below w.heap.size w w1 := by rw [hw1]; (repeat (first | with_reducible exact Below.refl _ _ | with_reducible assumption | with_reducible refine Below.drew ?_ | with_reducible refine bdrewN ?_ _ | ((with_reducible refine balloc ?_ ?_ _); (focus (first | with_reducible exact Nat.le_refl _ | (simp; done) | omega | (simp; omega) | exact Nat.le_refl _))) | ((with_reducible refine bset ?_ ?_ _); (focus (first | with_reducible exact Nat.le_refl _ | (simp; done) | omega | (simp; omega) | exact Nat.le_refl _)))))
    have z1 : w.heap.size + 1 ≤ w1.heap.size := by rw [hw1]; simp
    have e1 : Below w.heap.size w w1 := by rw [hw1]; (repeat (first | with_reducible exact Below.refl _ _ | with_reducible assumption | with_reducible refine Below.drew ?_ | with_reducible refine bdrewN ?_ _ | ((with_reducible refine balloc ?_ ?_ _); (focus (first | with_reducible exact Nat.le_refl _ | (simp; done) | omega | (simp; omega) | exact Nat.le_refl _))) | ((with_reducible refine bset ?_ ?_ _); (focus (first | with_reducible exact Nat.le_refl _ | (simp; done) | omega | (simp; omega) | exact Nat.le_refl _)))))
    have ci1 : w1.cell? ⟨w.heap.size, 0, none⟩ = some (.int .i64 x.kind) := by rw [hw1]; first | (simp; done) | go_simp
    have ca1 : w1.cell? ⟨w.heap.size, 1, none⟩ = some (.slice aa x.a.length ka) := by rw [hw1]; first | (simp; done) | go_simp
    have cb1 : w1.cell? ⟨w.heap.size, 2, none⟩ = some (.slice ab x.b.length kb) := by rw [hw1]; first | (simp; done) | go_simp
    have ck1 : w1.cell? ⟨w.heap.size, 3, none⟩ = some (.int .i64 x.k) := by rw [hw1]; first | (simp; done) | go_simp
    have ta1 := ta.keep e1 (by omega)
    have tb1 := tb.keep e1 (by omega)
    clear hw1
    refine (lok_spec o l h _ x.a _ ta1 (by omega) _ ha).mono ?_; rintro e w2 ⟨rfl, f2⟩
    have b2 := b1.trans (f2.mono (by omega))
    have z2 := f2.size
    have ci2 := cell_keep f2 ci1
    have ca2 := cell_keep f2 ca1
    have cb2 := cell_keep f2 cb1
    have ck2 := cell_keep f2 ck1
    have ta2 := ta1.keep f2 (by omega)
    have tb2 := tb1.keep f2 (by omega)
    clear ci1 ca1 cb1 ck1 ta1 tb1
    have lci2 : w.heap.size < w2.heap.size := World.block_lt_of_cell? _ _ ci2
    go_wp2_with fail
    refine name_call fun w3 hw3 => ?_
    have b3 : Below w.heap.size w w3 := by rw [hw3]; (repeat (first | with_reducible exact Below.refl _ _ | with_reducible assumption | with_reducible refine Below.drew ?_ | with_reducible refine bdrewN ?_ _ | ((with_reducible refine balloc ?_ ?_ _); (focus (first | with_reducible exact Nat.le_refl _ | (simp; done) | omega | (simp; omega) | exact Nat.le_refl _))) | ((with_reducible refine bset ?_ ?_ _); (focus (first | with_reducible exact Nat.le_refl _ | (simp; done) | omega | (simp; omega) | exact Nat.le_refl _)))))
    have z3 : w2.heap.size + 0 ≤ w3.heap.size := by rw [hw3]; simp
    have e3 : Below w2.heap.size w2 w3 := by rw [hw3]; (repeat (first | with_reducible exact Below.refl _ _ | with_reducible assumption | with_reducible refine Below.drew ?_ | with_reducible refine bdrewN ?_ _ | ((with_reducible refine balloc ?_ ?_ _); (focus (first | with_reducible exact Nat.le_refl _ | (simp; done) | omega | (simp; omega) | exact Nat.le_refl _))) | ((with_reducible refine bset ?_ ?_ _); (focus (first | with_reducible exact Nat.le_refl _ | (simp; done) | omega | (simp; omega) | exact Nat.le_refl _)))))
    have ci3 := cell_keep e3 ci2
    have ca3 := cell_keep e3 ca2
    have cb3 := cell_keep e3 cb2
    have ck3 := cell_keep e3 ck2
    have ta3 := ta2.keep e3 (by omega)
    have tb3 := tb2.keep e3 (by omega)
    clear hw3 lci2 ci2 ca2 cb2 ck2 ta2 tb2
    refine (lok_spec o l h _ x.b _ tb3 (by omega) _ hb).mono ?_; rintro e w4 ⟨rfl, f4⟩
    have b4 := b3.trans (f4.mono (by omega))
    have z4 := f4.size
    have ci4 := cell_keep f4 ci3
    have ca4 := cell_keep f4 ca3
    have cb4 := cell_keep f4 cb3
    have ck4 := cell_keep f4 ck3
    have ta4 := ta3.keep f4 (by omega)
    have tb4 := tb3.keep f4 (by omega)
    clear ci3 ca3 cb3 ck3 ta3 tb3
    go_wp2_with fail
    go_ret
    exact ⟨ret_bool HR.out.symm, b4⟩
  cases ga : linW n x.a
  · have HR : Hid (hintW n x = false) := Lib.hid (by simp [hintW, ga])
    clear kf
    go_enter Try.func137, Try.ntmps137
    go_wp2_with fail
    refine name_call fun w1 hw1 => ?_
    have b1 : Below w.heap.size w w1 := by rw [hw1]; (repeat (first | with_reducible exact Below.refl _ _ | with_reducible assumption | with_reducible refine Below.drew ?_ | with_reducible refine bdrewN ?_ _ | ((with_reducible refine balloc ?_ ?_ _); (focus (first | with_reducible exact Nat.le_refl _ | (simp; done) | omega | (simp; omega) | exact Nat.le_refl _))) | ((with_reducible refine bset ?_ ?_ _); (focus (first | with_reducible exact Nat.le_refl _ | (simp; done) | omega | (simp; omega) | exact Nat.le_refl _)))))
    have z1 : w.heap.size + 1 ≤ w1.heap.size := by rw [hw1]; simp
    have e1 : Below w.heap.size w w1 := by rw [hw1]; (repeat (first | with_reducible exact Below.refl _ _ | with_reducible assumption | with_reducible refine Below.drew ?_ | with_reducible refine bdrewN ?_ _ | ((with_reducible refine balloc ?_ ?_ _); (focus (first | with_reducible exact Nat.le_refl _ | (simp; done) | omega | (simp; omega) | exact Nat.le_refl _))) | ((with_reducible refine bset ?_ ?_ _); (focus (first | with_reducible exact Nat.le_refl _ | (simp; done) | omega | (simp; omega) | exact Nat.le_refl _)))))
    have ci1 : w1.cell? ⟨w.heap.size, 0, none⟩ = some (.int .i64 x.kind) := by rw [hw1]; first | (simp; done) | go_simp
    have ca1 : w1.cell? ⟨w.heap.size, 1, none⟩ = some (.slice aa x.a.length ka) := by rw [hw1]; first | (simp; done) | go_simp
    have cb1 : w1.cell? ⟨w.heap.size, 2, none⟩ = some (.slice ab x.b.length kb) := by rw [hw1]; first | (simp; done) | go_simp
    have ck1 : w1.cell? ⟨w.heap.size, 3, none⟩ = some (.int .i64 x.k) := by rw [hw1]; first | (simp; done) | go_simp
    have ta1 := ta.keep e1 (by omega)
    have tb1 := tb.keep e1 (by omega)
    clear hw1
    refine (lok_spec o l h _ x.a _ ta1 (by omega) _ ha).mono ?_; rintro e w2 ⟨rfl, f2⟩
    have b2 := b1.trans (f2.mono (by omega))
    have z2 := f2.size
    have ci2 := cell_keep f2 ci1
    have ca2 := cell_keep f2 ca1
    have cb2 := cell_keep f2 cb1
    have ck2 := cell_keep f2 ck1
    have ta2 := ta1.keep f2 (by omega)
    have tb2 := tb1.keep f2 (by omega)
    clear ci1 ca1 cb1 ck1 ta1 tb1
    have lci2 : w.heap.size < w2.heap.size := World.block_lt_of_cell? _ _ ci2
    go_wp2_with fail
    refine name_call fun w3 hw3 => ?_
    have b3 : Below w.heap.size w w3 := by rw [hw3]; (repeat (first | with_reducible exact Below.refl _ _ | with_reducible assumption | with_reducible refine Below.drew ?_ | with_reducible refine bdrewN ?_ _ | ((with_reducible refine balloc ?_ ?_ _); (focus (first | with_reducible exact Nat.le_refl _ | (simp; done) | omega | (simp; omega) | exact Nat.le_refl _))) | ((with_reducible refine bset ?_ ?_ _); (focus (first | with_reducible exact Nat.le_refl _ | (simp; done) | omega | (simp; omega) | exact Nat.le_refl _)))))
    have z3 : w2.heap.size + 0 ≤ w3.heap.size := by rw [hw3]; simp
    have e3 : Below w2.heap.size w2 w3 := by rw [hw3]; (repeat (first | with_reducible exact Below.refl _ _ | with_reducible assumption | with_reducible refine Below.drew ?_ | with_reducible refine bdrewN ?_ _ | ((with_reducible refine balloc ?_ ?_ _); (focus (first | with_reducible exact Nat.le_refl _ | (simp; done) | omega | (simp; omega) | exact Nat.le_refl _))) | ((with_reducible refine bset ?_ ?_ _); (focus (first | with_reducible exact Nat.le_refl _ | (simp; done) | omega | (simp; omega) | exact Nat.le_refl _)))))
    have ci3 := cell_keep e3 ci2
    have ca3 := cell_keep e3 ca2
    have cb3 := cell_keep e3 cb2
    have ck3 := cell_keep e3 ck2
    have ta3 := ta2.keep e3 (by omega)
    have tb3 := tb2.keep e3 (by omega)
    clear hw3 lci2 ci2 ca2 cb2 ck2 ta2 tb2
    refine (lok_spec o l h _ x.b _ tb3 (by omega) _ hb).mono ?_; rintro e w4 ⟨rfl, f4⟩
    have b4 := b3.trans (f4.mono (by omega))
    have z4 := f4.size
    have ci4 := cell_keep f4 ci3
    have ca4 := cell_keep f4 ca3
    have cb4 := cell_keep f4 cb3
    have ck4 := cell_keep f4 ck3
    have ta4 := ta3.keep f4 (by omega)
    have tb4 := tb3.keep f4 (by omega)
    clear ci3 ca3 cb3 ck3 ta3 tb3
    have lci4 : w.heap.size < w4.heap.size := World.block_lt_of_cell? _ _ ci4
    go_wp2_with fail
    refine name_call fun w5 hw5 => ?_
    have b5 : Below w.heap.size w w5 := by rw [hw5]; (repeat (first | with_reducible exact Below.refl _ _ | with_reducible assumption | with_reducible refine Below.drew ?_ | with_reducible refine bdrewN ?_ _ | ((with_reducible refine balloc ?_ ?_ _); (focus (first | with_reducible exact Nat.le_refl _ | (simp; done) | omega | (simp; omega) | exact Nat.le_refl _))) | ((with_reducible refine bset ?_ ?_ _); (focus (first | with_reducible exact Nat.le_refl _ | (simp; done) | omega | (simp; omega) | exact Nat.le_refl _)))))
    have z5 : w4.heap.size + 0 ≤ w5.heap.size := by rw [hw5]; simp
    have e5 : Below w4.heap.size w4 w5 := by rw [hw5]; (repeat (first | with_reducible exact Below.refl _ _ | with_reducible assumption | with_reducible refine Below.drew ?_ | with_reducible refine bdrewN ?_ _ | ((with_reducible refine balloc ?_ ?_ _); (focus (first | with_reducible exact Nat.le_refl _ | (simp; done) | omega | (simp; omega) | exact Nat.le_refl _))) | ((with_reducible refine bset ?_ ?_ _); (focus (first | with_reducible exact Nat.le_refl _ | (simp; done) | omega | (simp; omega) | exact Nat.le_refl _)))))
    have ci5 := cell_keep e5 ci4
    have ca5 := cell_keep e5 ca4
    have cb5 := cell_keep e5 cb4
    have ck5 := cell_keep e5 ck4
    have ta5 := ta4.keep e5 (by omega)
    have tb5 := tb4.keep e5 (by omega)
    clear hw5 lci4 ci4 ca4 cb4 ck4 ta4 tb4
    refine (l2w_any o l h _ x.a n _ ta5 (by omega) n0 n1 ha _ ga).mono ?_; rintro e w6 ⟨rfl, f6⟩
    have b6 := b5.trans (f6.mono (by omega))
    have z6 := f6.size
    have ci6 := cell_keep f6 ci5
    have ca6 := cell_keep f6 ca5
    have cb6 := cell_keep f6 cb5
    have ck6 := cell_keep f6 ck5
    have ta6 := ta5.keep f6 (by omega)
    have tb6 := tb5.keep f6 (by omega)
    clear ci5 ca5 cb5 ck5 ta5 tb5
    go_wp2_with fail
    go_ret
    exact ⟨ret_bool HR.out.symm, b6⟩
  cases gb : linW n x.b
  · have HR : Hid (hintW n x = false) := Lib.hid (by simp [hintW, gb])
    clear kf
    go_enter Try.func137, Try.ntmps137
    go_wp2_with fail
    refine name_call fun w1 hw1 => ?_
    have b1 : Below w.heap.size w w1 := by rw [hw1]; (repeat (first | with_reducible exact Below.refl _ _ | with_reducible assumption | with_reducible refine Below.drew ?_ | with_reducible refine bdrewN ?_ _ | ((with_reducible refine balloc ?_ ?_ _); (focus (first | with_reducible exact Nat.le_refl _ | (simp; done) | omega | (simp; omega) | exact Nat.le_refl _))) | ((with_reducible refine bset ?_ ?_ _); (focus (first | with_reducible exact Nat.le_refl _ | (simp; done) | omega | (simp; omega) | exact Nat.le_refl _)))))
    have z1 : w.heap.size + 1 ≤ w1.heap.size := by rw [hw1]; simp
    have e1 : Below w.heap.size w w1 := by rw [hw1]; (repeat (first | with_reducible exact Below.refl _ _ | with_reducible assumption | with_reducible refine Below.drew ?_ | with_reducible refine bdrewN ?_ _ | ((with_reducible refine balloc ?_ ?_ _); (focus (first | with_reducible exact Nat.le_refl _ | (simp; done) | omega | (simp; omega) | exact Nat.le_refl _))) | ((with_reducible refine bset ?_ ?_ _); (focus (first | with_reducible exact Nat.le_refl _ | (simp; done) | omega | (simp; omega) | exact Nat.le_refl _)))))
    have ci1 : w1.cell? ⟨w.heap.size, 0, none⟩ = some (.int .i64 x.kind) := by rw [hw1]; first | (simp; done) | go_simp
    have ca1 : w1.cell? ⟨w.heap.size, 1, none⟩ = some (.slice aa x.a.length ka) := by rw [hw1]; first | (simp; done) | go_simp
    have cb1 : w1.cell? ⟨w.heap.size, 2, none⟩ = some (.slice ab x.b.length kb) := by rw [hw1]; first | (simp; done) | go_simp
    have ck1 : w1.cell? ⟨w.heap.size, 3, none⟩ = some (.int .i64 x.k) := by rw [hw1]; first | (simp; done) | go_simp
    have ta1 := ta.keep e1 (by omega)
    have tb1 := tb.keep e1 (by omega)
    clear hw1
    refine (lok_spec o l h _ x.a _ ta1 (by omega) _ ha).mono ?_; rintro e w2 ⟨rfl, f2⟩
    have b2 := b1.trans (f2.mono (by omega))
    have z2 := f2.size
    have ci2 := cell_keep f2 ci1
    have ca2 := cell_keep f2 ca1
    have cb2 := cell_keep f2 cb1
    have ck2 := cell_keep f2 ck1
    have ta2 := ta1.keep f2 (by omega)
    have tb2 := tb1.keep f2 (by omega)
    clear ci1 ca1 cb1 ck1 ta1 tb1
    have lci2 : w.heap.size < w2.heap.size := World.block_lt_of_cell? _ _ ci2
    go_wp2_with fail
    refine name_call fun w3 hw3 => ?_
    have b3 : Below w.heap.size w w3 := by rw [hw3]; (repeat (first | with_reducible exact Below.refl _ _ | with_reducible assumption | with_reducible refine Below.drew ?_ | with_reducible refine bdrewN ?_ _ | ((with_reducible refine balloc ?_ ?_ _); (focus (first | with_reducible exact Nat.le_refl _ | (simp; done) | omega | (simp; omega) | exact Nat.le_refl _))) | ((with_reducible refine bset ?_ ?_ _); (focus (first | with_reducible exact Nat.le_refl _ | (simp; done) | omega | (simp; omega) | exact Nat.le_refl _)))))
    have z3 : w2.heap.size + 0 ≤ w3.heap.size := by rw [hw3]; simp
    have e3 : Below w2.heap.size w2 w3 := by rw [hw3]; (repeat (first | with_reducible exact Below.refl _ _ | with_reducible assumption | with_reducible refine Below.drew ?_ | with_reducible refine bdrewN ?_ _ | ((with_reducible refine balloc ?_ ?_ _); (focus (first | with_reducible exact Nat.le_refl _ | (simp; done) | omega | (simp; omega) | exact Nat.le_refl _))) | ((with_reducible refine bset ?_ ?_ _); (focus (first | with_reducible exact Nat.le_refl _ | (simp; done) | omega | (simp; omega) | exact Nat.le_refl _)))))
    have ci3 := cell_keep e3 ci2
    have ca3 := cell_keep e3 ca2
    have cb3 := cell_keep e3 cb2
    have ck3 := cell_keep e3 ck2
    have ta3 := ta2.keep e3 (by omega)
    have tb3 := tb2.keep e3 (by omega)
    clear hw3 lci2 ci2 ca2 cb2 ck2 ta2 tb2
    refine (lok_spec o l h _ x.b _ tb3 (by omega) _ hb).mono ?_; rintro e w4 ⟨rfl, f4⟩
    have b4 := b3.trans (f4.mono (by omega))
    have z4 := f4.size
    have ci4 := cell_keep f4 ci3
    have ca4 := cell_keep f4 ca3
    have cb4 := cell_keep f4 cb3
    have ck4 := cell_keep f4 ck3
    have ta4 := ta3.keep f4 (by omega)
    have tb4 := tb3.keep f4 (by omega)
    clear ci3 ca3 cb3 ck3 ta3 tb3
    have lci4 : w.heap.size < w4.heap.size := World.block_lt_of_cell? _ _ ci4
    go_wp2_with fail
    refine name_call fun w5 hw5 => ?_
    have b5 : Below w.heap.size w w5 := by rw [hw5]; (repeat (first | with_reducible exact Below.refl _ _ | with_reducible assumption | with_reducible refine Below.drew ?_ | with_reducible refine bdrewN ?_ _ | ((with_reducible refine balloc ?_ ?_ _); (focus (first | with_reducible exact Nat.le_refl _ | (simp; done) | omega | (simp; omega) | exact Nat.le_refl _))) | ((with_reducible refine bset ?_ ?_ _); (focus (first | with_reducible exact Nat.le_refl _ | (simp; done) | omega | (simp; omega) | exact Nat.le_refl _)))))
    have z5 : w4.heap.size + 0 ≤ w5.heap.size := by rw [hw5]; simp
    have e5 : Below w4.heap.size w4 w5 := by rw [hw5]; (repeat (first | with_reducible exact Below.refl _ _ | with_reducible assumption | with_reducible refine Below.drew ?_ | with_reducible refine bdrewN ?_ _ | ((with_reducible refine balloc ?_ ?_ _); (focus (first | with_reducible exact Nat.le_refl _ | (simp; done) | omega | (simp; omega) | exact Nat.le_refl _))) | ((with_reducible refine bset ?_ ?_ _); (focus (first | with_reducible exact Nat.le_refl _ | (simp; done) | omega | (simp; omega) | exact Nat.le_refl _)))))
    have ci5 := cell_keep e5 ci4
    have ca5 := cell_keep e5 ca4
    have cb5 := cell_keep e5 cb4
    have ck5 := cell_keep e5 ck4
    have ta5 := ta4.keep e5 (by omega)
    have tb5 := tb4.keep e5 (by omega)
    clear hw5 lci4 ci4 ca4 cb4 ck4 ta4 tb4
    refine (l2w_any o l h _ x.a n _ ta5 (by omega) n0 n1 ha _ ga).mono ?_; rintro e w6 ⟨rfl, f6⟩
    have b6 := b5.trans (f6.mono (by omega))
    have z6 := f6.size
    have ci6 := cell_keep f6 ci5
    have ca6 := cell_keep f6 ca5
    have cb6 := cell_keep f6 cb5
    have ck6 := cell_keep f6 ck5
    have ta6 := ta5.keep f6 (by omega)
    have tb6 := tb5.keep f6 (by omega)
    clear ci5 ca5 cb5 ck5 ta5 tb5
    have lci6 : w.heap.size < w6.heap.size := World.block_lt_of_cell? _ _ ci6
    go_wp2_with fail
    refine name_call fun w7 hw7 => ?_
    have b7 : Below w.heap.size w w7 := by rw [hw7]; (repeat (first | with_reducible exact Below.refl _ _ | with_reducible assumption | with_reducible refine Below.drew ?_ | with_reducible refine bdrewN ?_ _ | ((with_reducible refine balloc ?_ ?_ _); (focus (first | with_reducible exact Nat.le_refl _ | (simp; done) | omega | (simp; omega) | exact Nat.le_refl _))) | ((with_reducible refine bset ?_ ?_ _); (focus (first | with_reducible exact Nat.le_refl _ | (simp; done) | omega | (simp; omega) | exact Nat.le_refl _)))))
    have z7 : w6.heap.size + 0 ≤ w7.heap.size := by rw [hw7]; simp
    have e7 : Below w6.heap.size w6 w7 := by rw [hw7]; (repeat (first | with_reducible exact Below.refl _ _ | with_reducible assumption | with_reducible refine Below.drew ?_ | with_reducible refine bdrewN ?_ _ | ((with_reducible refine balloc ?_ ?_ _); (focus (first | with_reducible exact Nat.le_refl _ | (simp; done) | omega | (simp; omega) | exact Nat.le_refl _))) | ((with_reducible refine bset ?_ ?_ _); (focus (first | with_reducible exact Nat.le_refl _ | (simp; done) | omega | (simp; omega) | exact Nat.le_refl _)))))
    have ci7 := cell_keep e7 ci6
    have ca7 := cell_keep e7 ca6
    have cb7 := cell_keep e7 cb6
    have ck7 := cell_keep e7 ck6
    have ta7 := ta6.keep e7 (by omega)
    have tb7 := tb6.keep e7 (by omega)
    clear hw7 lci6 ci6 ca6 cb6 ck6 ta6 tb6
    refine (l2w_any o l h _ x.b n _ tb7 (by omega) n0 n1 hb _ gb).mono ?_; rintro e w8 ⟨rfl, f8⟩
    have b8 := b7.trans (f8.mono (by omega))
    have z8 := f8.size
    have ci8 := cell_keep f8 ci7
    have ca8 := cell_keep f8 ca7
    have cb8 := cell_keep f8 cb7
    have ck8 := cell_keep f8 ck7
    have ta8 := ta7.keep f8 (by omega)
    have tb8 := tb7.keep f8 (by omega)
    clear ci7 ca7 cb7 ck7 ta7 tb7
    go_wp2_with fail
    go_ret
    exact ⟨ret_bool HR.out.symm, b8⟩
  have HK : Hid (hintW n x = kindOk x) := Lib.hid (by simp [hintW, ga, gb])
  by_cases q0 : x.kind = 0
  · by_cases z0 : x.k = 0
    · have P0 : (x.kind == 0) = true := by simp [q0]
      have P1 : (x.kind != 0) = false := by simp [q0]
      have P2 : (x.kind == 1) = false := by simp [q0]
      have K0 : (x.k == 0) = true := by simp [z0]
      have HR : Hid (hintW n x = true) := Lib.hid (by rw [HK.out]; unfold kindOk; rw [decide_eq_true_iff]; omega)
      clear q0 u0 u1 z0
      clear kf
      go_enter Try.func137, Try.ntmps137
      go_wp2_with fail
      refine name_call fun w1 hw1 => ?_
      have b1 : Below w.heap.size w w1 := by rw [hw1]; (repeat (first | with_reducible exact Below.refl _ _ | with_reducible assumption | with_reducible refine Below.drew ?_ | with_reducible refine bdrewN ?_ _ | ((with_reducible refine balloc ?_ ?_ _); (focus (first | with_reducible exact Nat.le_refl _ | (simp; done) | omega | (simp; omega) | exact Nat.le_refl _))) | ((with_reducible refine bset ?_ ?_ _); (focus (first | with_reducible exact Nat.le_refl _ | (simp; done) | omega | (simp; omega) | exact Nat.le_refl _)))))
      have z1 : w.heap.size + 1 ≤ w1.heap.size := by rw [hw1]; simp
      have e1 : Below w.heap.size w w1 := by rw [hw1]; (repeat (first | with_reducible exact Below.refl _ _ | with_reducible assumption | with_reducible refine Below.drew ?_ | with_reducible refine bdrewN ?_ _ | ((with_reducible refine balloc ?_ ?_ _); (focus (first | with_reducible exact Nat.le_refl _ | (simp; done) | omega | (simp; omega) | exact Nat.le_refl _))) | ((with_reducible refine bset ?_ ?_ _); (focus (first | with_reducible exact Nat.le_refl _ | (simp; done) | omega | (simp; omega) | exact Nat.le_refl _)))))
      have ci1 : w1.cell? ⟨w.heap.size, 0, none⟩ = some (.int .i64 x.kind) := by rw [hw1]; first | (simp; done) | go_simp
      have ca1 : w1.cell? ⟨w.heap.size, 1, none⟩ = some (.slice aa x.a.length ka) := by rw [hw1]; first | (simp; done) | go_simp
      have cb1 : w1.cell? ⟨w.heap.size, 2, none⟩ = some (.slice ab x.b.length kb) := by rw [hw1]; first | (simp; done) | go_simp
      have ck1 : w1.cell? ⟨w.heap.size, 3, none⟩ = some (.int .i64 x.k) := by rw [hw1]; first | (simp; done) | go_simp
      have ta1 := ta.keep e1 (by omega)
      have tb1 := tb.keep e1 (by omega)
      clear hw1
      refine (lok_spec o l h _ x.a _ ta1 (by omega) _ ha).mono ?_; rintro e w2 ⟨rfl, f2⟩
      have b2 := b1.trans (f2.mono (by omega))
      have z2 := f2.size
      have ci2 := cell_keep f2 ci1
      have ca2 := cell_keep f2 ca1
      have cb2 := cell_keep f2 cb1
      have ck2 := cell_keep f2 ck1
      have ta2 := ta1.keep f2 (by omega)
      have tb2 := tb1.keep f2 (by omega)
      clear ci1 ca1 cb1 ck1 ta1 tb1
      have lci2 : w.heap.size < w2.heap.size := World.block_lt_of_cell? _ _ ci2
      go_wp2_with fail
      refine name_call fun w3 hw3 => ?_
      have b3 : Below w.heap.size w w3 := by rw [hw3]; (repeat (first | with_reducible exact Below.refl _ _ | with_reducible assumption | with_reducible refine Below.drew ?_ | with_reducible refine bdrewN ?_ _ | ((with_reducible refine balloc ?_ ?_ _); (focus (first | with_reducible exact Nat.le_refl _ | (simp; done) | omega | (simp; omega) | exact Nat.le_refl _))) | ((with_reducible refine bset ?_ ?_ _); (focus (first | with_reducible exact Nat.le_refl _ | (simp; done) | omega | (simp; omega) | exact Nat.le_refl _)))))
      have z3 : w2.heap.size + 0 ≤ w3.heap.size := by rw [hw3]; simp
      have e3 : Below w2.heap.size w2 w3 := by rw [hw3]; (repeat (first | with_reducible exact Below.refl _ _ | with_reducible assumption | with_reducible refine Below.drew ?_ | with_reducible refine bdrewN ?_ _ | ((with_reducible refine balloc ?_ ?_ _); (focus (first | with_reducible exact Nat.le_refl _ | (simp; done) | omega | (simp; omega) | exact Nat.le_refl _))) | ((with_reducible refine bset ?_ ?_ _); (focus (first | with_reducible exact Nat.le_refl _ | (simp; done) | omega | (simp; omega) | exact Nat.le_refl _)))))
      have ci3 := cell_keep e3 ci2
      have ca3 := cell_keep e3 ca2
      have cb3 := cell_keep e3 cb2
      have ck3 := cell_keep e3 ck2
      have ta3 := ta2.keep e3 (by omega)
      have tb3 := tb2.keep e3 (by omega)
      clear hw3 lci2 ci2 ca2 cb2 ck2 ta2 tb2
      refine (lok_spec o l h _ x.b _ tb3 (by omega) _ hb).mono ?_; rintro e w4 ⟨rfl, f4⟩
      have b4 := b3.trans (f4.mono (by omega))
      have z4 := f4.size
      have ci4 := cell_keep f4 ci3
      have ca4 := cell_keep f4 ca3
      have cb4 := cell_keep f4 cb3
      have ck4 := cell_keep f4 ck3
      have ta4 := ta3.keep f4 (by omega)
      have tb4 := tb3.keep f4 (by omega)
      clear ci3 ca3 cb3 ck3 ta3 tb3
      have lci4 : w.heap.size < w4.heap.size := World.block_lt_of_cell? _ _ ci4
      go_wp2_with fail
      refine name_call fun w5 hw5 => ?_
      have b5 : Below w.heap.size w w5 := by rw [hw5]; (repeat (first | with_reducible exact Below.refl _ _ | with_reducible assumption | with_reducible refine Below.drew ?_ | with_reducible refine bdrewN ?_ _ | ((with_reducible refine balloc ?_ ?_ _); (focus (first | with_reducible exact Nat.le_refl _ | (simp; done) | omega | (simp; omega) | exact Nat.le_refl _))) | ((with_reducible refine bset ?_ ?_ _); (focus (first | with_reducible exact Nat.le_refl _ | (simp; done) | omega | (simp; omega) | exact Nat.le_refl _)))))
      have z5 : w4.heap.size + 0 ≤ w5.heap.size := by rw [hw5]; simp
      have e5 : Below w4.heap.size w4 w5 := by rw [hw5]; (repeat (first | with_reducible exact Below.refl _ _ | with_reducible assumption | with_reducible refine Below.drew ?_ | with_reducible refine bdrewN ?_ _ | ((with_reducible refine balloc ?_ ?_ _); (focus (first | with_reducible exact Nat.le_refl _ | (simp; done) | omega | (simp; omega) | exact Nat.le_refl _))) | ((with_reducible refine bset ?_ ?_ _); (focus (first | with_reducible exact Nat.le_refl _ | (simp; done) | omega | (simp; omega) | exact Nat.le_refl _)))))
      have ci5 := cell_keep e5 ci4
      have ca5 := cell_keep e5 ca4
      have cb5 := cell_keep e5 cb4
      have ck5 := cell_keep e5 ck4
      have ta5 := ta4.keep e5 (by omega)
      have tb5 := tb4.keep e5 (by omega)
      clear hw5 lci4 ci4 ca4 cb4 ck4 ta4 tb4
      refine (l2w_any o l h _ x.a n _ ta5 (by omega) n0 n1 ha _ ga).mono ?_; rintro e w6 ⟨rfl, f6⟩
      have b6 := b5.trans (f6.mono (by omega))
      have z6 := f6.size
      have ci6 := cell_keep f6 ci5
      have ca6 := cell_keep f6 ca5
      have cb6 := cell_keep f6 cb5
      have ck6 := cell_keep f6 ck5
      have ta6 := ta5.keep f6 (by omega)
      have tb6 := tb5.keep f6 (by omega)
      clear ci5 ca5 cb5 ck5 ta5 tb5
      have lci6 : w.heap.size < w6.heap.size := World.block_lt_of_cell? _ _ ci6
      go_wp2_with fail
      refine name_call fun w7 hw7 => ?_
      have b7 : Below w.heap.size w w7 := by rw [hw7]; (repeat (first | with_reducible exact Below.refl _ _ | with_reducible assumption | with_reducible refine Below.drew ?_ | with_reducible refine bdrewN ?_ _ | ((with_reducible refine balloc ?_ ?_ _); (focus (first | with_reducible exact Nat.le_refl _ | (simp; done) | omega | (simp; omega) | exact Nat.le_refl _))) | ((with_reducible refine bset ?_ ?_ _); (focus (first | with_reducible exact Nat.le_refl _ | (simp; done) | omega | (simp; omega) | exact Nat.le_refl _)))))
      have z7 : w6.heap.size + 0 ≤ w7.heap.size := by rw [hw7]; simp
      have e7 : Below w6.heap.size w6 w7 := by rw [hw7]; (repeat (first | with_reducible exact Below.refl _ _ | with_reducible assumption | with_reducible refine Below.drew ?_ | with_reducible refine bdrewN ?_ _ | ((with_reducible refine balloc ?_ ?_ _); (focus (first | with_reducible exact Nat.le_refl _ | (simp; done) | omega | (simp; omega) | exact Nat.le_refl _))) | ((with_reducible refine bset ?_ ?_ _); (focus (first | with_reducible exact Nat.le_refl _ | (simp; done) | omega | (simp; omega) | exact Nat.le_refl _)))))
      have ci7 := cell_keep e7 ci6
      have ca7 := cell_keep e7 ca6
      have cb7 := cell_keep e7 cb6
      have ck7 := cell_keep e7 ck6
      have ta7 := ta6.keep e7 (by omega)
      have tb7 := tb6.keep e7 (by omega)
      clear hw7 lci6 ci6 ca6 cb6 ck6 ta6 tb6
      refine (l2w_any o l h _ x.b n _ tb7 (by omega) n0 n1 hb _ gb).mono ?_; rintro e w8 ⟨rfl, f8⟩
      have b8 := b7.trans (f8.mono (by omega))
      have z8 := f8.size
      have ci8 := cell_keep f8 ci7
      have ca8 := cell_keep f8 ca7
      have cb8 := cell_keep f8 cb7
      have ck8 := cell_keep f8 ck7
      have ta8 := ta7.keep f8 (by omega)
      have tb8 := tb7.keep f8 (by omega)
      clear ci7 ca7 cb7 ck7 ta7 tb7
      go_wp2_with fail
      go_ret
      first | exact ⟨ret_bool HR.out.symm, b8⟩ | exact ⟨ret_bool (by rw [HR.out]; simp; omega), b8⟩
    · have P0 : (x.kind == 0) = true := by simp [q0]
      have P1 : (x.kind != 0) = false := by simp [q0]
      have P2 : (x.kind == 1) = false := by simp [q0]
      have K0 : (x.k == 0) = false := by simp [z0]
      have HR : Hid (hintW n x = false) := Lib.hid (by rw [HK.out]; unfold kindOk; rw [decide_eq_false_iff_not]; omega)
      clear q0 u0 u1 z0
      clear kf
      go_enter Try.func137, Try.ntmps137
      go_wp2_with fail
      refine name_call fun w1 hw1 => ?_
      have b1 : Below w.heap.size w w1 := by rw [hw1]; (repeat (first | with_reducible exact Below.refl _ _ | with_reducible assumption | with_reducible refine Below.drew ?_ | with_reducible refine bdrewN ?_ _ | ((with_reducible refine balloc ?_ ?_ _); (focus (first | with_reducible exact Nat.le_refl _ | (simp; done) | omega | (simp; omega) | exact Nat.le_refl _))) | ((with_reducible refine bset ?_ ?_ _); (focus (first | with_reducible exact Nat.le_refl _ | (simp; done) | omega | (simp; omega) | exact Nat.le_refl _)))))
      have z1 : w.heap.size + 1 ≤ w1.heap.size := by rw [hw1]; simp
      have e1 : Below w.heap.size w w1 := by rw [hw1]; (repeat (first | with_reducible exact Below.refl _ _ | with_reducible assumption | with_reducible refine Below.drew ?_ | with_reducible refine bdrewN ?_ _ | ((with_reducible refine balloc ?_ ?_ _); (focus (first | with_reducible exact Nat.le_refl _ | (simp; done) | omega | (simp; omega) | exact Nat.le_refl _))) | ((with_reducible refine bset ?_ ?_ _); (focus (first | with_reducible exact Nat.le_refl _ | (simp; done) | omega | (simp; omega) | exact Nat.le_refl _)))))
      have ci1 : w1.cell? ⟨w.heap.size, 0, none⟩ = some (.int .i64 x.kind) := by rw [hw1]; first | (simp; done) | go_simp
      have ca1 : w1.cell? ⟨w.heap.size, 1, none⟩ = some (.slice aa x.a.length ka) := by rw [hw1]; first | (simp; done) | go_simp
      have cb1 : w1.cell? ⟨w.heap.size, 2, none⟩ = some (.slice ab x.b.length kb) := by rw [hw1]; first | (simp; done) | go_simp
      have ck1 : w1.cell? ⟨w.heap.size, 3, none⟩ = some (.int .i64 x.k) := by rw [hw1]; first | (simp; done) | go_simp
      have ta1 := ta.keep e1 (by omega)
      have tb1 := tb.keep e1 (by omega)
      clear hw1
      refine (lok_spec o l h _ x.a _ ta1 (by omega) _ ha).mono ?_; rintro e w2 ⟨rfl, f2⟩
      have b2 := b1.trans (f2.mono (by omega))
      have z2 := f2.size
      have ci2 := cell_keep f2 ci1
      have ca2 := cell_keep f2 ca1
      have cb2 := cell_keep f2 cb1
      have ck2 := cell_keep f2 ck1
      have ta2 := ta1.keep f2 (by omega)
      have tb2 := tb1.keep f2 (by omega)
      clear ci1 ca1 cb1 ck1 ta1 tb1
      have lci2 : w.heap.size < w2.heap.size := World.block_lt_of_cell? _ _ ci2
      go_wp2_with fail
      refine name_call fun w3 hw3 => ?_
      have b3 : Below w.heap.size w w3 := by rw [hw3]; (repeat (first | with_reducible exact Below.refl _ _ | with_reducible assumption | with_reducible refine Below.drew ?_ | with_reducible refine bdrewN ?_ _ | ((with_reducible refine balloc ?_ ?_ _); (focus (first | with_reducible exact Nat.le_refl _ | (simp; done) | omega | (simp; omega) | exact Nat.le_refl _))) | ((with_reducible refine bset ?_ ?_ _); (focus (first | with_reducible exact Nat.le_refl _ | (simp; done) | omega | (simp; omega) | exact Nat.le_refl _)))))
      have z3 : w2.heap.size + 0 ≤ w3.heap.size := by rw [hw3]; simp
      have e3 : Below w2.heap.size w2 w3 := by rw [hw3]; (repeat (first | with_reducible exact Below.refl _ _ | with_reducible assumption | with_reducible refine Below.drew ?_ | with_reducible refine bdrewN ?_ _ | ((with_reducible refine balloc ?_ ?_ _); (focus (first | with_reducible exact Nat.le_refl _ | (simp; done) | omega | (simp; omega) | exact Nat.le_refl _))) | ((with_reducible refine bset ?_ ?_ _); (focus (first | with_reducible exact Nat.le_refl _ | (simp; done) | omega | (simp; omega) | exact Nat.le_refl _)))))
      have ci3 := cell_keep e3 ci2
      have ca3 := cell_keep e3 ca2
      have cb3 := cell_keep e3 cb2
      have ck3 := cell_keep e3 ck2
      have ta3 := ta2.keep e3 (by omega)
      have tb3 := tb2.keep e3 (by omega)
      clear hw3 lci2 ci2 ca2 cb2 ck2 ta2 tb2
      refine (lok_spec o l h _ x.b _ tb3 (by omega) _ hb).mono ?_; rintro e w4 ⟨rfl, f4⟩
      have b4 := b3.trans (f4.mono (by omega))
      have z4 := f4.size
      have ci4 := cell_keep f4 ci3
      have ca4 := cell_keep f4 ca3
      have cb4 := cell_keep f4 cb3
      have ck4 := cell_keep f4 ck3
      have ta4 := ta3.keep f4 (by omega)
      have tb4 := tb3.keep f4 (by omega)
      clear ci3 ca3 cb3 ck3 ta3 tb3
      have lci4 : w.heap.size < w4.heap.size := World.block_lt_of_cell? _ _ ci4
      go_wp2_with fail
      refine name_call fun w5 hw5 => ?_
      have b5 : Below w.heap.size w w5 := by rw [hw5]; (repeat (first | with_reducible exact Below.refl _ _ | with_reducible assumption | with_reducible refine Below.drew ?_ | with_reducible refine bdrewN ?_ _ | ((with_reducible refine balloc ?_ ?_ _); (focus (first | with_reducible exact Nat.le_refl _ | (simp; done) | omega | (simp; omega) | exact Nat.le_refl _))) | ((with_reducible refine bset ?_ ?_ _); (focus (first | with_reducible exact Nat.le_refl _ | (simp; done) | omega | (simp; omega) | exact Nat.le_refl _)))))
      have z5 : w4.heap.size + 0 ≤ w5.heap.size := by rw [hw5]; simp
      have e5 : Below w4.heap.size w4 w5 := by rw [hw5]; (repeat (first | with_reducible exact Below.refl _ _ | with_reducible assumption | with_reducible refine Below.drew ?_ | with_reducible refine bdrewN ?_ _ | ((with_reducible refine balloc ?_ ?_ _); (focus (first | with_reducible exact Nat.le_refl _ | (simp; done) | omega | (simp; omega) | exact Nat.le_refl _))) | ((with_reducible refine bset ?_ ?_ _); (focus (first | with_reducible exact Nat.le_refl _ | (simp; done) | omega | (simp; omega) | exact Nat.le_refl _)))))
      have ci5 := cell_keep e5 ci4
      have ca5 := cell_keep e5 ca4
      have cb5 := cell_keep e5 cb4
      have ck5 := cell_keep e5 ck4
      have ta5 := ta4.keep e5 (by omega)
      have tb5 := tb4.keep e5 (by omega)
      clear hw5 lci4 ci4 ca4 cb4 ck4 ta4 tb4
      refine (l2w_any o l h _ x.a n _ ta5 (by omega) n0 n1 ha _ ga).mono ?_; rintro e w6 ⟨rfl, f6⟩
      have b6 := b5.trans (f6.mono (by omega))
      have z6 := f6.size
      have ci6 := cell_keep f6 ci5
      have ca6 := cell_keep f6 ca5
      have cb6 := cell_keep f6 cb5
      have ck6 := cell_keep f6 ck5
      have ta6 := ta5.keep f6 (by omega)
      have tb6 := tb5.keep f6 (by omega)
      clear ci5 ca5 cb5 ck5 ta5 tb5
      have lci6 : w.heap.size < w6.heap.size := World.block_lt_of_cell? _ _ ci6
      go_wp2_with fail
      refine name_call fun w7 hw7 => ?_
      have b7 : Below w.heap.size w w7 := by rw [hw7]; (repeat (first | with_reducible exact Below.refl _ _ | with_reducible assumption | with_reducible refine Below.drew ?_ | with_reducible refine bdrewN ?_ _ | ((with_reducible refine balloc ?_ ?_ _); (focus (first | with_reducible exact Nat.le_refl _ | (simp; done) | omega | (simp; omega) | exact Nat.le_refl _))) | ((with_reducible refine bset ?_ ?_ _); (focus (first | with_reducible exact Nat.le_refl _ | (simp; done) | omega | (simp; omega) | exact Nat.le_refl _)))))
      have z7 : w6.heap.size + 0 ≤ w7.heap.size := by rw [hw7]; simp
      have e7 : Below w6.heap.size w6 w7 := by rw [hw7]; (repeat (first | with_reducible exact Below.refl _ _ | with_reducible assumption | with_reducible refine Below.drew ?_ | with_reducible refine bdrewN ?_ _ | ((with_reducible refine balloc ?_ ?_ _); (focus (first | with_reducible exact Nat.le_refl _ | (simp; done) | omega | (simp; omega) | exact Nat.le_refl _))) | ((with_reducible refine bset ?_ ?_ _); (focus (first | with_reducible exact Nat.le_refl _ | (simp; done) | omega | (simp; omega) | exact Nat.le_refl _)))))
      have ci7 := cell_keep e7 ci6
      have ca7 := cell_keep e7 ca6
      have cb7 := cell_keep e7 cb6
      have ck7 := cell_keep e7 ck6
      have ta7 := ta6.keep e7 (by omega)
      have tb7 := tb6.keep e7 (by omega)
      clear hw7 lci6 ci6 ca6 cb6 ck6 ta6 tb6
      refine (l2w_any o l h _ x.b n _ tb7 (by omega) n0 n1 hb _ gb).mono ?_; rintro e w8 ⟨rfl, f8⟩
      have b8 := b7.trans (f8.mono (by omega))
      have z8 := f8.size
      have ci8 := cell_keep f8 ci7
      have ca8 := cell_keep f8 ca7
      have cb8 := cell_keep f8 cb7
      have ck8 := cell_keep f8 ck7
      have ta8 := ta7.keep f8 (by omega)
      have tb8 := tb7.keep f8 (by omega)
      clear ci7 ca7 cb7 ck7 ta7 tb7
      go_wp2_with fail
      go_ret
      first | exact ⟨ret_bool HR.out.symm, b8⟩ | exact ⟨ret_bool (by rw [HR.out]; simp; omega), b8⟩
  by_cases q3 : x.kind = 3
  · by_cases z0 : x.k = 0
    · have P0 : (x.kind == 0) = false := by simp [q3]
      have P1 : (x.kind != 0) = true := by simp [q3]
      have P2 : (x.kind == 3) = true := by simp [q3]
      have P3 : (x.kind != 3) = false := by simp [q3]
      have P4 : (x.kind == 1) = false := by simp [q3]
      have K0 : (x.k == 0) = true := by simp [z0]
      have HR : Hid (hintW n x = true) := Lib.hid (by rw [HK.out]; unfold kindOk; rw [decide_eq_true_iff]; omega)
      clear q3 u0 u1 z0
      clear kf
      go_enter Try.func137, Try.ntmps137
      go_wp2_with fail
      refine name_call fun w1 hw1 => ?_
      have b1 : Below w.heap.size w w1 := by rw [hw1]; (repeat (first | with_reducible exact Below.refl _ _ | with_reducible assumption | with_reducible refine Below.drew ?_ | with_reducible refine bdrewN ?_ _ | ((with_reducible refine balloc ?_ ?_ _); (focus (first | with_reducible exact Nat.le_refl _ | (simp; done) | omega | (simp; omega) | exact Nat.le_refl _))) | ((with_reducible refine bset ?_ ?_ _); (focus (first | with_reducible exact Nat.le_refl _ | (simp; done) | omega | (simp; omega) | exact Nat.le_refl _)))))
      have z1 : w.heap.size + 1 ≤ w1.heap.size := by rw [hw1]; simp
      have e1 : Below w.heap.size w w1 := by rw [hw1]; (repeat (first | with_reducible exact Below.refl _ _ | with_reducible assumption | with_reducible refine Below.drew ?_ | with_reducible refine bdrewN ?_ _ | ((with_reducible refine balloc ?_ ?_ _); (focus (first | with_reducible exact Nat.le_refl _ | (simp; done) | omega | (simp; omega) | exact Nat.le_refl _))) | ((with_reducible refine bset ?_ ?_ _); (focus (first | with_reducible exact Nat.le_refl _ | (simp; done) | omega | (simp; omega) | exact Nat.le_refl _)))))
      have ci1 : w1.cell? ⟨w.heap.size, 0, none⟩ = some (.int .i64 x.kind) := by rw [hw1]; first | (simp; done) | go_simp
      have ca1 : w1.cell? ⟨w.heap.size, 1, none⟩ = some (.slice aa x.a.length ka) := by rw [hw1]; first | (simp; done) | go_simp
      have cb1 : w1.cell? ⟨w.heap.size, 2, none⟩ = some (.slice ab x.b.length kb) := by rw [hw1]; first | (simp; done) | go_simp
      have ck1 : w1.cell? ⟨w.heap.size, 3, none⟩ = some (.int .i64 x.k) := by rw [hw1]; first | (simp; done) | go_simp
      have ta1 := ta.keep e1 (by omega)
      have tb1 := tb.keep e1 (by omega)
      clear hw1
      refine (lok_spec o l h _ x.a _ ta1 (by omega) _ ha).mono ?_; rintro e w2 ⟨rfl, f2⟩
      have b2 := b1.trans (f2.mono (by omega))
      have z2 := f2.size
      have ci2 := cell_keep f2 ci1
      have ca2 := cell_keep f2 ca1
      have cb2 := cell_keep f2 cb1
      have ck2 := cell_keep f2 ck1
      have ta2 := ta1.keep f2 (by omega)
      have tb2 := tb1.keep f2 (by omega)
      clear ci1 ca1 cb1 ck1 ta1 tb1
      have lci2 : w.heap.size < w2.heap.size := World.block_lt_of_cell? _ _ ci2
      go_wp2_with fail
      refine name_call fun w3 hw3 => ?_
      have b3 : Below w.heap.size w w3 := by rw [hw3]; (repeat (first | with_reducible exact Below.refl _ _ | with_reducible assumption | with_reducible refine Below.drew ?_ | with_reducible refine bdrewN ?_ _ | ((with_reducible refine balloc ?_ ?_ _); (focus (first | with_reducible exact Nat.le_refl _ | (simp; done) | omega | (simp; omega) | exact Nat.le_refl _))) | ((with_reducible refine bset ?_ ?_ _); (focus (first | with_reducible exact Nat.le_refl _ | (simp; done) | omega | (simp; omega) | exact Nat.le_refl _)))))
      have z3 : w2.heap.size + 0 ≤ w3.heap.size := by rw [hw3]; simp
      have e3 : Below w2.heap.size w2 w3 := by rw [hw3]; (repeat (first | with_reducible exact Below.refl _ _ | with_reducible assumption | with_reducible refine Below.drew ?_ | with_reducible refine bdrewN ?_ _ | ((with_reducible refine balloc ?_ ?_ _); (focus (first | with_reducible exact Nat.le_refl _ | (simp; done) | omega | (simp; omega) | exact Nat.le_refl _))) | ((with_reducible refine bset ?_ ?_ _); (focus (first | with_reducible exact Nat.le_refl _ | (simp; done) | omega | (simp; omega) | exact Nat.le_refl _)))))
      have ci3 := cell_keep e3 ci2
      have ca3 := cell_keep e3 ca2
      have cb3 := cell_keep e3 cb2
      have ck3 := cell_keep e3 ck2
      have ta3 := ta2.keep e3 (by omega)
      have tb3 := tb2.keep e3 (by omega)
      clear hw3 lci2 ci2 ca2 cb2 ck2 ta2 tb2
      refine (lok_spec o l h _ x.b _ tb3 (by omega) _ hb).mono ?_; rintro e w4 ⟨rfl, f4⟩
      have b4 := b3.trans (f4.mono (by omega))
      have z4 := f4.size
      have ci4 := cell_keep f4 ci3
      have ca4 := cell_keep f4 ca3
      have cb4 := cell_keep f4 cb3
      have ck4 := cell_keep f4 ck3
      have ta4 := ta3.keep f4 (by omega)
      have tb4 := tb3.keep f4 (by omega)
      clear ci3 ca3 cb3 ck3 ta3 tb3
      have lci4 : w.heap.size < w4.heap.size := World.block_lt_of_cell? _ _ ci4
      go_wp2_with fail
      refine name_call fun w5 hw5 => ?_
      have b5 : Below w.heap.size w w5 := by rw [hw5]; (repeat (first | with_reducible exact Below.refl _ _ | with_reducible assumption | with_reducible refine Below.drew ?_ | with_reducible refine bdrewN ?_ _ | ((with_reducible refine balloc ?_ ?_ _); (focus (first | with_reducible exact Nat.le_refl _ | (simp; done) | omega | (simp; omega) | exact Nat.le_refl _))) | ((with_reducible refine bset ?_ ?_ _); (focus (first | with_reducible exact Nat.le_refl _ | (simp; done) | omega | (simp; omega) | exact Nat.le_refl _)))))
      have z5 : w4.heap.size + 0 ≤ w5.heap.size := by rw [hw5]; simp
      have e5 : Below w4.heap.size w4 w5 := by rw [hw5]; (repeat (first | with_reducible exact Below.refl _ _ | with_reducible assumption | with_reducible refine Below.drew ?_ | with_reducible refine bdrewN ?_ _ | ((with_reducible refine balloc ?_ ?_ _); (focus (first | with_reducible exact Nat.le_refl _ | (simp; done) | omega | (simp; omega) | exact Nat.le_refl _))) | ((with_reducible refine bset ?_ ?_ _); (focus (first | with_reducible exact Nat.le_refl _ | (simp; done) | omega | (simp; omega) | exact Nat.le_refl _)))))
      have ci5 := cell_keep e5 ci4
      have ca5 := cell_keep e5 ca4
      have cb5 := cell_keep e5 cb4
      have ck5 := cell_keep e5 ck4
      have ta5 := ta4.keep e5 (by omega)
      have tb5 := tb4.keep e5 (by omega)
      clear hw5 lci4 ci4 ca4 cb4 ck4 ta4 tb4
      refine (l2w_any o l h _ x.a n _ ta5 (by omega) n0 n1 ha _ ga).mono ?_; rintro e w6 ⟨rfl, f6⟩
      have b6 := b5.trans (f6.mono (by omega))
      have z6 := f6.size
      have ci6 := cell_keep f6 ci5
      have ca6 := cell_keep f6 ca5
      have cb6 := cell_keep f6 cb5
      have ck6 := cell_keep f6 ck5
      have ta6 := ta5.keep f6 (by omega)
      have tb6 := tb5.keep f6 (by omega)
      clear ci5 ca5 cb5 ck5 ta5 tb5
      have lci6 : w.heap.size < w6.heap.size := World.block_lt_of_cell? _ _ ci6
      go_wp2_with fail
      refine name_call fun w7 hw7 => ?_
      have b7 : Below w.heap.size w w7 := by rw [hw7]; (repeat (first | with_reducible exact Below.refl _ _ | with_reducible assumption | with_reducible refine Below.drew ?_ | with_reducible refine bdrewN ?_ _ | ((with_reducible refine balloc ?_ ?_ _); (focus (first | with_reducible exact Nat.le_refl _ | (simp; done) | omega | (simp; omega) | exact Nat.le_refl _))) | ((with_reducible refine bset ?_ ?_ _); (focus (first | with_reducible exact Nat.le_refl _ | (simp; done) | omega | (simp; omega) | exact Nat.le_refl _)))))
      have z7 : w6.heap.size + 0 ≤ w7.heap.size := by rw [hw7]; simp
      have e7 : Below w6.heap.size w6 w7 := by rw [hw7]; (repeat (first | with_reducible exact Below.refl _ _ | with_reducible assumption | with_reducible refine Below.drew ?_ | with_reducible refine bdrewN ?_ _ | ((with_reducible refine balloc ?_ ?_ _); (focus (first | with_reducible exact Nat.le_refl _ | (simp; done) | omega | (simp; omega) | exact Nat.le_refl _))) | ((with_reducible refine bset ?_ ?_ _); (focus (first | with_reducible exact Nat.le_refl _ | (simp; done) | omega | (simp; omega) | exact Nat.le_refl _)))))
      have ci7 := cell_keep e7 ci6
      have ca7 := cell_keep e7 ca6
      have cb7 := cell_keep e7 cb6
      have ck7 := cell_keep e7 ck6
      have ta7 := ta6.keep e7 (by omega)
      have tb7 := tb6.keep e7 (by omega)
      clear hw7 lci6 ci6 ca6 cb6 ck6 ta6 tb6
      refine (l2w_any o l h _ x.b n _ tb7 (by omega) n0 n1 hb _ gb).mono ?_; rintro e w8 ⟨rfl, f8⟩
      have b8 := b7.trans (f8.mono (by omega))
      have z8 := f8.size
      have ci8 := cell_keep f8 ci7
      have ca8 := cell_keep f8 ca7
      have cb8 := cell_keep f8 cb7
      have ck8 := cell_keep f8 ck7
      have ta8 := ta7.keep f8 (by omega)
      have tb8 := tb7.keep f8 (by omega)
      clear ci7 ca7 cb7 ck7 ta7 tb7
      go_wp2_with fail
      go_ret
      first | exact ⟨ret_bool HR.out.symm, b8⟩ | exact ⟨ret_bool (by rw [HR.out]; simp; omega), b8⟩
    · have P0 : (x.kind == 0) = false := by simp [q3]
      have P1 : (x.kind != 0) = true := by simp [q3]
      have P2 : (x.kind == 3) = true := by simp [q3]
      have P3 : (x.kind != 3) = false := by simp [q3]
      have P4 : (x.kind == 1) = false := by simp [q3]
      have K0 : (x.k == 0) = false := by simp [z0]
      have HR : Hid (hintW n x = false) := Lib.hid (by rw [HK.out]; unfold kindOk; rw [decide_eq_false_iff_not]; omega)
      clear q3 u0 u1 z0
      clear kf
      go_enter Try.func137, Try.ntmps137
      go_wp2_with fail
      refine name_call fun w1 hw1 => ?_
      have b1 : Below w.heap.size w w1 := by rw [hw1]; (repeat (first | with_reducible exact Below.refl _ _ | with_reducible assumption | with_reducible refine Below.drew ?_ | with_reducible refine bdrewN ?_ _ | ((with_reducible refine balloc ?_ ?_ _); (focus (first | with_reducible exact Nat.le_refl _ | (simp; done) | omega | (simp; omega) | exact Nat.le_refl _))) | ((with_reducible refine bset ?_ ?_ _); (focus (first | with_reducible exact Nat.le_refl _ | (simp; done) | omega | (simp; omega) | exact Nat.le_refl _)))))
      have z1 : w.heap.size + 1 ≤ w1.heap.size := by rw [hw1]; simp
      have e1 : Below w.heap.size w w1 := by rw [hw1]; (repeat (first | with_reducible exact Below.refl _ _ | with_reducible assumption | with_reducible refine Below.drew ?_ | with_reducible refine bdrewN ?_ _ | ((with_reducible refine balloc ?_ ?_ _); (focus (first | with_reducible exact Nat.le_refl _ | (simp; done) | omega | (simp; omega) | exact Nat.le_refl _))) | ((with_reducible refine bset ?_ ?_ _); (focus (first | with_reducible exact Nat.le_refl _ | (simp; done) | omega | (simp; omega) | exact Nat.le_refl _)))))
      have ci1 : w1.cell? ⟨w.heap.size, 0, none⟩ = some (.int .i64 x.kind) := by rw [hw1]; first | (simp; done) | go_simp
      have ca1 : w1.cell? ⟨w.heap.size, 1, none⟩ = some (.slice aa x.a.length ka) := by rw [hw1]; first | (simp; done) | go_simp
      have cb1 : w1.cell? ⟨w.heap.size, 2, none⟩ = some (.slice ab x.b.length kb) := by rw [hw1]; first | (simp; done) | go_simp
      have ck1 : w1.cell? ⟨w.heap.size, 3, none⟩ = some (.int .i64 x.k) := by rw [hw1]; first | (simp; done) | go_simp
      have ta1 := ta.keep e1 (by omega)
      have tb1 := tb.keep e1 (by omega)
      clear hw1
      refine (lok_spec o l h _ x.a _ ta1 (by omega) _ ha).mono ?_; rintro e w2 ⟨rfl, f2⟩
      have b2 := b1.trans (f2.mono (by omega))
      have z2 := f2.size
      have ci2 := cell_keep f2 ci1
      have ca2 := cell_keep f2 ca1
      have cb2 := cell_keep f2 cb1
      have ck2 := cell_keep f2 ck1
      have ta2 := ta1.keep f2 (by omega)
      have tb2 := tb1.keep f2 (by omega)
      clear ci1 ca1 cb1 ck1 ta1 tb1
      have lci2 : w.heap.size < w2.heap.size := World.block_lt_of_cell? _ _ ci2
      go_wp2_with fail
      refine name_call fun w3 hw3 => ?_
      have b3 : Below w.heap.size w w3 := by rw [hw3]; (repeat (first | with_reducible exact Below.refl _ _ | with_reducible assumption | with_reducible refine Below.drew ?_ | with_reducible refine bdrewN ?_ _ | ((with_reducible refine balloc ?_ ?_ _); (focus (first | with_reducible exact Nat.le_refl _ | (simp; done) | omega | (simp; omega) | exact Nat.le_refl _))) | ((with_reducible refine bset ?_ ?_ _); (focus (first | with_reducible exact Nat.le_refl _ | (simp; done) | omega | (simp; omega) | exact Nat.le_refl _)))))
      have z3 : w2.heap.size + 0 ≤ w3.heap.size := by rw [hw3]; simp
      have e3 : Below w2.heap.size w2 w3 := by rw [hw3]; (repeat (first | with_reducible exact Below.refl _ _ | with_reducible assumption | with_reducible refine Below.drew ?_ | with_reducible refine bdrewN ?_ _ | ((with_reducible refine balloc ?_ ?_ _); (focus (first | with_reducible exact Nat.le_refl _ | (simp; done) | omega | (simp; omega) | exact Nat.le_refl _))) | ((with_reducible refine bset ?_ ?_ _); (focus (first | with_reducible exact Nat.le_refl _ | (simp; done) | omega | (simp; omega) | exact Nat.le_refl _)))))
      have ci3 := cell_keep e3 ci2
      have ca3 := cell_keep e3 ca2
      have cb3 := cell_keep e3 cb2
      have ck3 := cell_keep e3 ck2
      have ta3 := ta2.keep e3 (by omega)
      have tb3 := tb2.keep e3 (by omega)
      clear hw3 lci2 ci2 ca2 cb2 ck2 ta2 tb2
      refine (lok_spec o l h _ x.b _ tb3 (by omega) _ hb).mono ?_; rintro e w4 ⟨rfl, f4⟩
      have b4 := b3.trans (f4.mono (by omega))
      have z4 := f4.size
      have ci4 := cell_keep f4 ci3
      have ca4 := cell_keep f4 ca3
      have cb4 := cell_keep f4 cb3
      have ck4 := cell_keep f4 ck3
      have ta4 := ta3.keep f4 (by omega)
      have tb4 := tb3.keep f4 (by omega)
      clear ci3 ca3 cb3 ck3 ta3 tb3
      have lci4 : w.heap.size < w4.heap.size := World.block_lt_of_cell? _ _ ci4
      go_wp2_with fail
      refine name_call fun w5 hw5 => ?_
      have b5 : Below w.heap.size w w5 := by rw [hw5]; (repeat (first | with_reducible exact Below.refl _ _ | with_reducible assumption | with_reducible refine Below.drew ?_ | with_reducible refine bdrewN ?_ _ | ((with_reducible refine balloc ?_ ?_ _); (focus (first | with_reducible exact Nat.le_refl _ | (simp; done) | omega | (simp; omega) | exact Nat.le_refl _))) | ((with_reducible refine bset ?_ ?_ _); (focus (first | with_reducible exact Nat.le_refl _ | (simp; done) | omega | (simp; omega) | exact Nat.le_refl _)))))
      have z5 : w4.heap.size + 0 ≤ w5.heap.size := by rw [hw5]; simp
      have e5 : Below w4.heap.size w4 w5 := by rw [hw5]; (repeat (first | with_reducible exact Below.refl _ _ | with_reducible assumption | with_reducible refine Below.drew ?_ | with_reducible refine bdrewN ?_ _ | ((with_reducible refine balloc ?_ ?_ _); (focus (first | with_reducible exact Nat.le_refl _ | (simp; done) | omega | (simp; omega) | exact Nat.le_refl _))) | ((with_reducible refine bset ?_ ?_ _); (focus (first | with_reducible exact Nat.le_refl _ | (simp; done) | omega | (simp; omega) | exact Nat.le_refl _)))))
      have ci5 := cell_keep e5 ci4
      have ca5 := cell_keep e5 ca4
      have cb5 := cell_keep e5 cb4
      have ck5 := cell_keep e5 ck4
      have ta5 := ta4.keep e5 (by omega)
      have tb5 := tb4.keep e5 (by omega)
      clear hw5 lci4 ci4 ca4 cb4 ck4 ta4 tb4
      refine (l2w_any o l h _ x.a n _ ta5 (by omega) n0 n1 ha _ ga).mono ?_; rintro e w6 ⟨rfl, f6⟩
      have b6 := b5.trans (f6.mono (by omega))
      have z6 := f6.size
      have ci6 := cell_keep f6 ci5
      have ca6 := cell_keep f6 ca5
      have cb6 := cell_keep f6 cb5
      have ck6 := cell_keep f6 ck5
      have ta6 := ta5.keep f6 (by omega)
      have tb6 := tb5.keep f6 (by omega)
      clear ci5 ca5 cb5 ck5 ta5 tb5
      have lci6 : w.heap.size < w6.heap.size := World.block_lt_of_cell? _ _ ci6
      go_wp2_with fail
      refine name_call fun w7 hw7 => ?_
      have b7 : Below w.heap.size w w7 := by rw [hw7]; (repeat (first | with_reducible exact Below.refl _ _ | with_reducible assumption | with_reducible refine Below.drew ?_ | with_reducible refine bdrewN ?_ _ | ((with_reducible refine balloc ?_ ?_ _); (focus (first | with_reducible exact Nat.le_refl _ | (simp; done) | omega | (simp; omega) | exact Nat.le_refl _))) | ((with_reducible refine bset ?_ ?_ _); (focus (first | with_reducible exact Nat.le_refl _ | (simp; done) | omega | (simp; omega) | exact Nat.le_refl _)))))
      have z7 : w6.heap.size + 0 ≤ w7.heap.size := by rw [hw7]; simp
      have e7 : Below w6.heap.size w6 w7 := by rw [hw7]; (repeat (first | with_reducible exact Below.refl _ _ | with_reducible assumption | with_reducible refine Below.drew ?_ | with_reducible refine bdrewN ?_ _ | ((with_reducible refine balloc ?_ ?_ _); (focus (first | with_reducible exact Nat.le_refl _ | (simp; done) | omega | (simp; omega) | exact Nat.le_refl _))) | ((with_reducible refine bset ?_ ?_ _); (focus (first | with_reducible exact Nat.le_refl _ | (simp; done) | omega | (simp; omega) | exact Nat.le_refl _)))))
      have ci7 := cell_keep e7 ci6
      have ca7 := cell_keep e7 ca6
      have cb7 := cell_keep e7 cb6
      have ck7 := cell_keep e7 ck6
      have ta7 := ta6.keep e7 (by omega)
      have tb7 := tb6.keep e7 (by omega)
      clear hw7 lci6 ci6 ca6 cb6 ck6 ta6 tb6
      refine (l2w_any o l h _ x.b n _ tb7 (by omega) n0 n1 hb _ gb).mono ?_; rintro e w8 ⟨rfl, f8⟩
      have b8 := b7.trans (f8.mono (by omega))
      have z8 := f8.size
      have ci8 := cell_keep f8 ci7
      have ca8 := cell_keep f8 ca7
      have cb8 := cell_keep f8 cb7
      have ck8 := cell_keep f8 ck7
      have ta8 := ta7.keep f8 (by omega)
      have tb8 := tb7.keep f8 (by omega)
      clear ci7 ca7 cb7 ck7 ta7 tb7
      go_wp2_with fail
      go_ret
      first | exact ⟨ret_bool HR.out.symm, b8⟩ | exact ⟨ret_bool (by rw [HR.out]; simp; omega), b8⟩
  by_cases q1 : x.kind = 1
  · by_cases y0 : x.b.length = 0
    case' neg =>
      have P0 : (x.kind == 0) = false := by simp [q1]
      have P1 : (x.kind != 0) = true := by simp [q1]
      have P2 : (x.kind == 3) = false := by simp [q1]
      have P3 : (x.kind != 3) = true := by simp [q1]
      have P4 : (x.kind == 1) = true := by simp [q1]
      have B0 : 0 < x.b.length := by omega
      have HR : Hid (hintW n x = false) := Lib.hid (by rw [HK.out]; unfold kindOk; rw [decide_eq_false_iff_not]; omega)
      clear q1 u0 u1 y0
      clear kf
      go_enter Try.func137, Try.ntmps137
      go_wp2_with fail
      refine name_call fun w1 hw1 => ?_
      have b1 : Below w.heap.size w w1 := by rw [hw1]; (repeat (first | with_reducible exact Below.refl _ _ | with_reducible assumption | with_reducible refine Below.drew ?_ | with_reducible refine bdrewN ?_ _ | ((with_reducible refine balloc ?_ ?_ _); (focus (first | with_reducible exact Nat.le_refl _ | (simp; done) | omega | (simp; omega) | exact Nat.le_refl _))) | ((with_reducible refine bset ?_ ?_ _); (focus (first | with_reducible exact Nat.le_refl _ | (simp; done) | omega | (simp; omega) | exact Nat.le_refl _)))))
      have z1 : w.heap.size + 1 ≤ w1.heap.size := by rw [hw1]; simp
      have e1 : Below w.heap.size w w1 := by rw [hw1]; (repeat (first | with_reducible exact Below.refl _ _ | with_reducible assumption | with_reducible refine Below.drew ?_ | with_reducible refine bdrewN ?_ _ | ((with_reducible refine balloc ?_ ?_ _); (focus (first | with_reducible exact Nat.le_refl _ | (simp; done) | omega | (simp; omega) | exact Nat.le_refl _))) | ((with_reducible refine bset ?_ ?_ _); (focus (first | with_reducible exact Nat.le_refl _ | (simp; done) | omega | (simp; omega) | exact Nat.le_refl _)))))
      have ci1 : w1.cell? ⟨w.heap.size, 0, none⟩ = some (.int .i64 x.kind) := by rw [hw1]; first | (simp; done) | go_simp
      have ca1 : w1.cell? ⟨w.heap.size, 1, none⟩ = some (.slice aa x.a.length ka) := by rw [hw1]; first | (simp; done) | go_simp
      have cb1 : w1.cell? ⟨w.heap.size, 2, none⟩ = some (.slice ab x.b.length kb) := by rw [hw1]; first | (simp; done) | go_simp
      have ck1 : w1.cell? ⟨w.heap.size, 3, none⟩ = some (.int .i64 x.k) := by rw [hw1]; first | (simp; done) | go_simp
      have ta1 := ta.keep e1 (by omega)
      have tb1 := tb.keep e1 (by omega)
      clear hw1
      refine (lok_spec o l h _ x.a _ ta1 (by omega) _ ha).mono ?_; rintro e w2 ⟨rfl, f2⟩
      have b2 := b1.trans (f2.mono (by omega))
      have z2 := f2.size
      have ci2 := cell_keep f2 ci1
      have ca2 := cell_keep f2 ca1
      have cb2 := cell_keep f2 cb1
      have ck2 := cell_keep f2 ck1
      have ta2 := ta1.keep f2 (by omega)
      have tb2 := tb1.keep f2 (by omega)
      clear ci1 ca1 cb1 ck1 ta1 tb1
      have lci2 : w.heap.size < w2.heap.size := World.block_lt_of_cell? _ _ ci2
      go_wp2_with fail
      refine name_call fun w3 hw3 => ?_
      have b3 : Below w.heap.size w w3 := by rw [hw3]; (repeat (first | with_reducible exact Below.refl _ _ | with_reducible assumption | with_reducible refine Below.drew ?_ | with_reducible refine bdrewN ?_ _ | ((with_reducible refine balloc ?_ ?_ _); (focus (first | with_reducible exact Nat.le_refl _ | (simp; done) | omega | (simp; omega) | exact Nat.le_refl _))) | ((with_reducible refine bset ?_ ?_ _); (focus (first | with_reducible exact Nat.le_refl _ | (simp; done) | omega | (simp; omega) | exact Nat.le_refl _)))))
      have z3 : w2.heap.size + 0 ≤ w3.heap.size := by rw [hw3]; simp
      have e3 : Below w2.heap.size w2 w3 := by rw [hw3]; (repeat (first | with_reducible exact Below.refl _ _ | with_reducible assumption | with_reducible refine Below.drew ?_ | with_reducible refine bdrewN ?_ _ | ((with_reducible refine balloc ?_ ?_ _); (focus (first | with_reducible exact Nat.le_refl _ | (simp; done) | omega | (simp; omega) | exact Nat.le_refl _))) | ((with_reducible refine bset ?_ ?_ _); (focus (first | with_reducible exact Nat.le_refl _ | (simp; done) | omega | (simp; omega) | exact Nat.le_refl _)))))
      have ci3 := cell_keep e3 ci2
      have ca3 := cell_keep e3 ca2
      have cb3 := cell_keep e3 cb2
      have ck3 := cell_keep e3 ck2
      have ta3 := ta2.keep e3 (by omega)
      have tb3 := tb2.keep e3 (by omega)
      clear hw3 lci2 ci2 ca2 cb2 ck2 ta2 tb2
      refine (lok_spec o l h _ x.b _ tb3 (by omega) _ hb).mono ?_; rintro e w4 ⟨rfl, f4⟩
      have b4 := b3.trans (f4.mono (by omega))
      have z4 := f4.size
      have ci4 := cell_keep f4 ci3
      have ca4 := cell_keep f4 ca3
      have cb4 := cell_keep f4 cb3
      have ck4 := cell_keep f4 ck3
      have ta4 := ta3.keep f4 (by omega)
      have tb4 := tb3.keep f4 (by omega)
      clear ci3 ca3 cb3 ck3 ta3 tb3
      have lci4 : w.heap.size < w4.heap.size := World.block_lt_of_cell? _ _ ci4
      go_wp2_with fail
      refine name_call fun w5 hw5 => ?_
      have b5 : Below w.heap.size w w5 := by rw [hw5]; (repeat (first | with_reducible exact Below.refl _ _ | with_reducible assumption | with_reducible refine Below.drew ?_ | with_reducible refine bdrewN ?_ _ | ((with_reducible refine balloc ?_ ?_ _); (focus (first | with_reducible exact Nat.le_refl _ | (simp; done) | omega | (simp; omega) | exact Nat.le_refl _))) | ((with_reducible refine bset ?_ ?_ _); (focus (first | with_reducible exact Nat.le_refl _ | (simp; done) | omega | (simp; omega) | exact Nat.le_refl _)))))
      have z5 : w4.heap.size + 0 ≤ w5.heap.size := by rw [hw5]; simp
      have e5 : Below w4.heap.size w4 w5 := by rw [hw5]; (repeat (first | with_reducible exact Below.refl _ _ | with_reducible assumption | with_reducible refine Below.drew ?_ | with_reducible refine bdrewN ?_ _ | ((with_reducible refine balloc ?_ ?_ _); (focus (first | with_reducible exact Nat.le_refl _ | (simp; done) | omega | (simp; omega) | exact Nat.le_refl _))) | ((with_reducible refine bset ?_ ?_ _); (focus (first | with_reducible exact Nat.le_refl _ | (simp; done) | omega | (simp; omega) | exact Nat.le_refl _)))))
      have ci5 := cell_keep e5 ci4
      have ca5 := cell_keep e5 ca4
      have cb5 := cell_keep e5 cb4
      have ck5 := cell_keep e5 ck4
      have ta5 := ta4.keep e5 (by omega)
      have tb5 := tb4.keep e5 (by omega)
      clear hw5 lci4 ci4 ca4 cb4 ck4 ta4 tb4
      refine (l2w_any o l h _ x.a n _ ta5 (by omega) n0 n1 ha _ ga).mono ?_; rintro e w6 ⟨rfl, f6⟩
      have b6 := b5.trans (f6.mono (by omega))
      have z6 := f6.size
      have ci6 := cell_keep f6 ci5
      have ca6 := cell_keep f6 ca5
      have cb6 := cell_keep f6 cb5
      have ck6 := cell_keep f6 ck5
      have ta6 := ta5.keep f6 (by omega)
      have tb6 := tb5.keep f6 (by omega)
      clear ci5 ca5 cb5 ck5 ta5 tb5
      have lci6 : w.heap.size < w6.heap.size := World.block_lt_of_cell? _ _ ci6
      go_wp2_with fail
      refine name_call fun w7 hw7 => ?_
      have b7 : Below w.heap.size w w7 := by rw [hw7]; (repeat (first | with_reducible exact Below.refl _ _ | with_reducible assumption | with_reducible refine Below.drew ?_ | with_reducible refine bdrewN ?_ _ | ((with_reducible refine balloc ?_ ?_ _); (focus (first | with_reducible exact Nat.le_refl _ | (simp; done) | omega | (simp; omega) | exact Nat.le_refl _))) | ((with_reducible refine bset ?_ ?_ _); (focus (first | with_reducible exact Nat.le_refl _ | (simp; done) | omega | (simp; omega) | exact Nat.le_refl _)))))
      have z7 : w6.heap.size + 0 ≤ w7.heap.size := by rw [hw7]; simp
      have e7 : Below w6.heap.size w6 w7 := by rw [hw7]; (repeat (first | with_reducible exact Below.refl _ _ | with_reducible assumption | with_reducible refine Below.drew ?_ | with_reducible refine bdrewN ?_ _ | ((with_reducible refine balloc ?_ ?_ _); (focus (first | with_reducible exact Nat.le_refl _ | (simp; done) | omega | (simp; omega) | exact Nat.le_refl _))) | ((with_reducible refine bset ?_ ?_ _); (focus (first | with_reducible exact Nat.le_refl _ | (simp; done) | omega | (simp; omega) | exact Nat.le_refl _)))))
      have ci7 := cell_keep e7 ci6
      have ca7 := cell_keep e7 ca6
      have cb7 := cell_keep e7 cb6
      have ck7 := cell_keep e7 ck6
      have ta7 := ta6.keep e7 (by omega)
      have tb7 := tb6.keep e7 (by omega)
      clear hw7 lci6 ci6 ca6 cb6 ck6 ta6 tb6
      refine (l2w_any o l h _ x.b n _ tb7 (by omega) n0 n1 hb _ gb).mono ?_; rintro e w8 ⟨rfl, f8⟩
      have b8 := b7.trans (f8.mono (by omega))
      have z8 := f8.size
      have ci8 := cell_keep f8 ci7
      have ca8 := cell_keep f8 ca7
      have cb8 := cell_keep f8 cb7
      have ck8 := cell_keep f8 ck7
      have ta8 := ta7.keep f8 (by omega)
      have tb8 := tb7.keep f8 (by omega)
      clear ci7 ca7 cb7 ck7 ta7 tb7
      go_wp2_with fail
      go_ret
      first | exact ⟨ret_bool HR.out.symm, b8⟩ | exact ⟨ret_bool (by rw [HR.out]; simp; omega), b8⟩
    by_cases z0 : x.k = 0
    · have P0 : (x.kind == 0) = false := by simp [q1]
      have P1 : (x.kind != 0) = true := by simp [q1]
      have P2 : (x.kind == 3) = false := by simp [q1]
      have P3 : (x.kind != 3) = true := by simp [q1]
      have P4 : (x.kind == 1) = true := by simp [q1]
      have B0 : ¬ 0 < x.b.length := by omega
      have K0 : (x.k == 0) = true := by simp [z0]
      have HR : Hid (hintW n x = true) := Lib.hid (by rw [HK.out]; unfold kindOk; rw [decide_eq_true_iff]; omega)
      clear q1 u0 u1 y0 z0
      clear kf
      go_enter Try.func137, Try.ntmps137
      go_wp2_with fail
      refine name_call fun w1 hw1 => ?_
      have b1 : Below w.heap.size w w1 := by rw [hw1]; (repeat (first | with_reducible exact Below.refl _ _ | with_reducible assumption | with_reducible refine Below.drew ?_ | with_reducible refine bdrewN ?_ _ | ((with_reducible refine balloc ?_ ?_ _); (focus (first | with_reducible exact Nat.le_refl _ | (simp; done) | omega | (simp; omega) | exact Nat.le_refl _))) | ((with_reducible refine bset ?_ ?_ _); (focus (first | with_reducible exact Nat.le_refl _ | (simp; done) | omega | (simp; omega) | exact Nat.le_refl _)))))
      have z1 : w.heap.size + 1 ≤ w1.heap.size := by rw [hw1]; simp
      have e1 : Below w.heap.size w w1 := by rw [hw1]; (repeat (first | with_reducible exact Below.refl _ _ | with_reducible assumption | with_reducible refine Below.drew ?_ | with_reducible refine bdrewN ?_ _ | ((with_reducible refine balloc ?_ ?_ _); (focus (first | with_reducible exact Nat.le_refl _ | (simp; done) | omega | (simp; omega) | exact Nat.le_refl _))) | ((with_reducible refine bset ?_ ?_ _); (focus (first | with_reducible exact Nat.le_refl _ | (simp; done) | omega | (simp; omega) | exact Nat.le_refl _)))))
      have ci1 : w1.cell? ⟨w.heap.size, 0, none⟩ = some (.int .i64 x.kind) := by rw [hw1]; first | (simp; done) | go_simp
      have ca1 : w1.cell? ⟨w.heap.size, 1, none⟩ = some (.slice aa x.a.length ka) := by rw [hw1]; first | (simp; done) | go_simp
      have cb1 : w1.cell? ⟨w.heap.size, 2, none⟩ = some (.slice ab x.b.length kb) := by rw [hw1]; first | (simp; done) | go_simp
      have ck1 : w1.cell? ⟨w.heap.size, 3, none⟩ = some (.int .i64 x.k) := by rw [hw1]; first | (simp; done) | go_simp
      have ta1 := ta.keep e1 (by omega)
      have tb1 := tb.keep e1 (by omega)
      clear hw1
      refine (lok_spec o l h _ x.a _ ta1 (by omega) _ ha).mono ?_; rintro e w2 ⟨rfl, f2⟩
      have b2 := b1.trans (f2.mono (by omega))
      have z2 := f2.size
      have ci2 := cell_keep f2 ci1
      have ca2 := cell_keep f2 ca1
      have cb2 := cell_keep f2 cb1
      have ck2 := cell_keep f2 ck1
      have ta2 := ta1.keep f2 (by omega)
      have tb2 := tb1.keep f2 (by omega)
      clear ci1 ca1 cb1 ck1 ta1 tb1
      have lci2 : w.heap.size < w2.heap.size := World.block_lt_of_cell? _ _ ci2
      go_wp2_with fail
      refine name_call fun w3 hw3 => ?_
      have b3 : Below w.heap.size w w3 := by rw [hw3]; (repeat (first | with_reducible exact Below.refl _ _ | with_reducible assumption | with_reducible refine Below.drew ?_ | with_reducible refine bdrewN ?_ _ | ((with_reducible refine balloc ?_ ?_ _); (focus (first | with_reducible exact Nat.le_refl _ | (simp; done) | omega | (simp; omega) | exact Nat.le_refl _))) | ((with_reducible refine bset ?_ ?_ _); (focus (first | with_reducible exact Nat.le_refl _ | (simp; done) | omega | (simp; omega) | exact Nat.le_refl _)))))
      have z3 : w2.heap.size + 0 ≤ w3.heap.size := by rw [hw3]; simp
      have e3 : Below w2.heap.size w2 w3 := by rw [hw3]; (repeat (first | with_reducible exact Below.refl _ _ | with_reducible assumption | with_reducible refine Below.drew ?_ | with_reducible refine bdrewN ?_ _ | ((with_reducible refine balloc ?_ ?_ _); (focus (first | with_reducible exact Nat.le_refl _ | (simp; done) | omega | (simp; omega) | exact Nat.le_refl _))) | ((with_reducible refine bset ?_ ?_ _); (focus (first | with_reducible exact Nat.le_refl _ | (simp; done) | omega | (simp; omega) | exact Nat.le_refl _)))))
      have ci3 := cell_keep e3 ci2
      have ca3 := cell_keep e3 ca2
      have cb3 := cell_keep e3 cb2
      have ck3 := cell_keep e3 ck2
      have ta3 := ta2.keep e3 (by omega)
      have tb3 := tb2.keep e3 (by omega)
      clear hw3 lci2 ci2 ca2 cb2 ck2 ta2 tb2
      refine (lok_spec o l h _ x.b _ tb3 (by omega) _ hb).mono ?_; rintro e w4 ⟨rfl, f4⟩
      have b4 := b3.trans (f4.mono (by omega))
      have z4 := f4.size
      have ci4 := cell_keep f4 ci3
      have ca4 := cell_keep f4 ca3
      have cb4 := cell_keep f4 cb3
      have ck4 := cell_keep f4 ck3
      have ta4 := ta3.keep f4 (by omega)
      have tb4 := tb3.keep f4 (by omega)
      clear ci3 ca3 cb3 ck3 ta3 tb3
      have lci4 : w.heap.size < w4.heap.size := World.block_lt_of_cell? _ _ ci4
      go_wp2_with fail
      refine name_call fun w5 hw5 => ?_
      have b5 : Below w.heap.size w w5 := by rw [hw5]; (repeat (first | with_reducible exact Below.refl _ _ | with_reducible assumption | with_reducible refine Below.drew ?_ | with_reducible refine bdrewN ?_ _ | ((with_reducible refine balloc ?_ ?_ _); (focus (first | with_reducible exact Nat.le_refl _ | (simp; done) | omega | (simp; omega) | exact Nat.le_refl _))) | ((with_reducible refine bset ?_ ?_ _); (focus (first | with_reducible exact Nat.le_refl _ | (simp; done) | omega | (simp; omega) | exact Nat.le_refl _)))))
      have z5 : w4.heap.size + 0 ≤ w5.heap.size := by rw [hw5]; simp
      have e5 : Below w4.heap.size w4 w5 := by rw [hw5]; (repeat (first | with_reducible exact Below.refl _ _ | with_reducible assumption | with_reducible refine Below.drew ?_ | with_reducible refine bdrewN ?_ _ | ((with_reducible refine balloc ?_ ?_ _); (focus (first | with_reducible exact Nat.le_refl _ | (simp; done) | omega | (simp; omega) | exact Nat.le_refl _))) | ((with_reducible refine bset ?_ ?_ _); (focus (first | with_reducible exact Nat.le_refl _ | (simp; done) | omega | (simp; omega) | exact Nat.le_refl _)))))
      have ci5 := cell_keep e5 ci4
      have ca5 := cell_keep e5 ca4
      have cb5 := cell_keep e5 cb4
      have ck5 := cell_keep e5 ck4
      have ta5 := ta4.keep e5 (by omega)
      have tb5 := tb4.keep e5 (by omega)
      clear hw5 lci4 ci4 ca4 cb4 ck4 ta4 tb4
      refine (l2w_any o l h _ x.a n _ ta5 (by omega) n0 n1 ha _ ga).mono ?_; rintro e w6 ⟨rfl, f6⟩
      have b6 := b5.trans (f6.mono (by omega))
      have z6 := f6.size
      have ci6 := cell_keep f6 ci5
      have ca6 := cell_keep f6 ca5
      have cb6 := cell_keep f6 cb5
      have ck6 := cell_keep f6 ck5
      have ta6 := ta5.keep f6 (by omega)
      have tb6 := tb5.keep f6 (by omega)
      clear ci5 ca5 cb5 ck5 ta5 tb5
      have lci6 : w.heap.size < w6.heap.size := World.block_lt_of_cell? _ _ ci6
      go_wp2_with fail
      refine name_call fun w7 hw7 => ?_
      have b7 : Below w.heap.size w w7 := by rw [hw7]; (repeat (first | with_reducible exact Below.refl _ _ | with_reducible assumption | with_reducible refine Below.drew ?_ | with_reducible refine bdrewN ?_ _ | ((with_reducible refine balloc ?_ ?_ _); (focus (first | with_reducible exact Nat.le_refl _ | (simp; done) | omega | (simp; omega) | exact Nat.le_refl _))) | ((with_reducible refine bset ?_ ?_ _); (focus (first | with_reducible exact Nat.le_refl _ | (simp; done) | omega | (simp; omega) | exact Nat.le_refl _)))))
      have z7 : w6.heap.size + 0 ≤ w7.heap.size := by rw [hw7]; simp
      have e7 : Below w6.heap.size w6 w7 := by rw [hw7]; (repeat (first | with_reducible exact Below.refl _ _ | with_reducible assumption | with_reducible refine Below.drew ?_ | with_reducible refine bdrewN ?_ _ | ((with_reducible refine balloc ?_ ?_ _); (focus (first | with_reducible exact Nat.le_refl _ | (simp; done) | omega | (simp; omega) | exact Nat.le_refl _))) | ((with_reducible refine bset ?_ ?_ _); (focus (first | with_reducible exact Nat.le_refl _ | (simp; done) | omega | (simp; omega) | exact Nat.le_refl _)))))
      have ci7 := cell_keep e7 ci6
      have ca7 := cell_keep e7 ca6
      have cb7 := cell_keep e7 cb6
      have ck7 := cell_keep e7 ck6
      have ta7 := ta6.keep e7 (by omega)
      have tb7 := tb6.keep e7 (by omega)
      clear hw7 lci6 ci6 ca6 cb6 ck6 ta6 tb6
      refine (l2w_any o l h _ x.b n _ tb7 (by omega) n0 n1 hb _ gb).mono ?_; rintro e w8 ⟨rfl, f8⟩
      have b8 := b7.trans (f8.mono (by omega))
      have z8 := f8.size
      have ci8 := cell_keep f8 ci7
      have ca8 := cell_keep f8 ca7
      have cb8 := cell_keep f8 cb7
      have ck8 := cell_keep f8 ck7
      have ta8 := ta7.keep f8 (by omega)
      have tb8 := tb7.keep f8 (by omega)
      clear ci7 ca7 cb7 ck7 ta7 tb7
      go_wp2_with fail
      go_ret
      first | exact ⟨ret_bool HR.out.symm, b8⟩ | exact ⟨ret_bool (by rw [HR.out]; simp; omega), b8⟩
    by_cases z1 : x.k > 0
    case' neg =>
      have P0 : (x.kind == 0) = false := by simp [q1]
      have P1 : (x.kind != 0) = true := by simp [q1]
      have P2 : (x.kind == 3) = false := by simp [q1]
      have P3 : (x.kind != 3) = true := by simp [q1]
      have P4 : (x.kind == 1) = true := by simp [q1]
      have B0 : ¬ 0 < x.b.length := by omega
      have K0 : (x.k == 0) = false := by simp [z0]
      have K1 : ¬ 0 < x.k := by omega
      have HR : Hid (hintW n x = false) := Lib.hid (by rw [HK.out]; unfold kindOk; rw [decide_eq_false_iff_not]; omega)
      clear q1 u0 u1 y0 z0 z1
      clear kf
      go_enter Try.func137, Try.ntmps137
      go_wp2_with fail
      refine name_call fun w1 hw1 => ?_
      have b1 : Below w.heap.size w w1 := by rw [hw1]; (repeat (first | with_reducible exact Below.refl _ _ | with_reducible assumption | with_reducible refine Below.drew ?_ | with_reducible refine bdrewN ?_ _ | ((with_reducible refine balloc ?_ ?_ _); (focus (first | with_reducible exact Nat.le_refl _ | (simp; done) | omega | (simp; omega) | exact Nat.le_refl _))) | ((with_reducible refine bset ?_ ?_ _); (focus (first | with_reducible exact Nat.le_refl _ | (simp; done) | omega | (simp; omega) | exact Nat.le_refl _)))))
      have z1 : w.heap.size + 1 ≤ w1.heap.size := by rw [hw1]; simp
      have e1 : Below w.heap.size w w1 := by rw [hw1]; (repeat (first | with_reducible exact Below.refl _ _ | with_reducible assumption | with_reducible refine Below.drew ?_ | with_reducible refine bdrewN ?_ _ | ((with_reducible refine balloc ?_ ?_ _); (focus (first | with_reducible exact Nat.le_refl _ | (simp; done) | omega | (simp; omega) | exact Nat.le_refl _))) | ((with_reducible refine bset ?_ ?_ _); (focus (first | with_reducible exact Nat.le_refl _ | (simp; done) | omega | (simp; omega) | exact Nat.le_refl _)))))
      have ci1 : w1.cell? ⟨w.heap.size, 0, none⟩ = some (.int .i64 x.kind) := by rw [hw1]; first | (simp; done) | go_simp
      have ca1 : w1.cell? ⟨w.heap.size, 1, none⟩ = some (.slice aa x.a.length ka) := by rw [hw1]; first | (simp; done) | go_simp
      have cb1 : w1.cell? ⟨w.heap.size, 2, none⟩ = some (.slice ab x.b.length kb) := by rw [hw1]; first | (simp; done) | go_simp
      have ck1 : w1.cell? ⟨w.heap.size, 3, none⟩ = some (.int .i64 x.k) := by rw [hw1]; first | (simp; done) | go_simp
      have ta1 := ta.keep e1 (by omega)
      have tb1 := tb.keep e1 (by omega)
      clear hw1
      refine (lok_spec o l h _ x.a _ ta1 (by omega) _ ha).mono ?_; rintro e w2 ⟨rfl, f2⟩
      have b2 := b1.trans (f2.mono (by omega))
      have z2 := f2.size
      have ci2 := cell_keep f2 ci1
      have ca2 := cell_keep f2 ca1
      have cb2 := cell_keep f2 cb1
      have ck2 := cell_keep f2 ck1
      have ta2 := ta1.keep f2 (by omega)
      have tb2 := tb1.keep f2 (by omega)
      clear ci1 ca1 cb1 ck1 ta1 tb1
      have lci2 : w.heap.size < w2.heap.size := World.block_lt_of_cell? _ _ ci2
      go_wp2_with fail
      refine name_call fun w3 hw3 => ?_
      have b3 : Below w.heap.size w w3 := by rw [hw3]; (repeat (first | with_reducible exact Below.refl _ _ | with_reducible assumption | with_reducible refine Below.drew ?_ | with_reducible refine bdrewN ?_ _ | ((with_reducible refine balloc ?_ ?_ _); (focus (first | with_reducible exact Nat.le_refl _ | (simp; done) | omega | (simp; omega) | exact Nat.le_refl _))) | ((with_reducible refine bset ?_ ?_ _); (focus (first | with_reducible exact Nat.le_refl _ | (simp; done) | omega | (simp; omega) | exact Nat.le_refl _)))))
      have z3 : w2.heap.size + 0 ≤ w3.heap.size := by rw [hw3]; simp
      have e3 : Below w2.heap.size w2 w3 := by rw [hw3]; (repeat (first | with_reducible exact Below.refl _ _ | with_reducible assumption | with_reducible refine Below.drew ?_ | with_reducible refine bdrewN ?_ _ | ((with_reducible refine balloc ?_ ?_ _); (focus (first | with_reducible exact Nat.le_refl _ | (simp; done) | omega | (simp; omega) | exact Nat.le_refl _))) | ((with_reducible refine bset ?_ ?_ _); (focus (first | with_reducible exact Nat.le_refl _ | (simp; done) | omega | (simp; omega) | exact Nat.le_refl _)))))
      have ci3 := cell_keep e3 ci2
      have ca3 := cell_keep e3 ca2
      have cb3 := cell_keep e3 cb2
      have ck3 := cell_keep e3 ck2
      have ta3 := ta2.keep e3 (by omega)
      have tb3 := tb2.keep e3 (by omega)
      clear hw3 lci2 ci2 ca2 cb2 ck2 ta2 tb2
      refine (lok_spec o l h _ x.b _ tb3 (by omega) _ hb).mono ?_; rintro e w4 ⟨rfl, f4⟩
      have b4 := b3.trans (f4.mono (by omega))
      have z4 := f4.size
      have ci4 := cell_keep f4 ci3
      have ca4 := cell_keep f4 ca3
      have cb4 := cell_keep f4 cb3
      have ck4 := cell_keep f4 ck3
      have ta4 := ta3.keep f4 (by omega)
      have tb4 := tb3.keep f4 (by omega)
      clear ci3 ca3 cb3 ck3 ta3 tb3
      have lci4 : w.heap.size < w4.heap.size := World.block_lt_of_cell? _ _ ci4
      go_wp2_with fail
      refine name_call fun w5 hw5 => ?_
      have b5 : Below w.heap.size w w5 := by rw [hw5]; (repeat (first | with_reducible exact Below.refl _ _ | with_reducible assumption | with_reducible refine Below.drew ?_ | with_reducible refine bdrewN ?_ _ | ((with_reducible refine balloc ?_ ?_ _); (focus (first | with_reducible exact Nat.le_refl _ | (simp; done) | omega | (simp; omega) | exact Nat.le_refl _))) | ((with_reducible refine bset ?_ ?_ _); (focus (first | with_reducible exact Nat.le_refl _ | (simp; done) | omega | (simp; omega) | exact Nat.le_refl _)))))
      have z5 : w4.heap.size + 0 ≤ w5.heap.size := by rw [hw5]; simp
      have e5 : Below w4.heap.size w4 w5 := by rw [hw5]; (repeat (first | with_reducible exact Below.refl _ _ | with_reducible assumption | with_reducible refine Below.drew ?_ | with_reducible refine bdrewN ?_ _ | ((with_reducible refine balloc ?_ ?_ _); (focus (first | with_reducible exact Nat.le_refl _ | (simp; done) | omega | (simp; omega) | exact Nat.le_refl _))) | ((with_reducible refine bset ?_ ?_ _); (focus (first | with_reducible exact Nat.le_refl _ | (simp; done) | omega | (simp; omega) | exact Nat.le_refl _)))))
      have ci5 := cell_keep e5 ci4
      have ca5 := cell_keep e5 ca4
      have cb5 := cell_keep e5 cb4
      have ck5 := cell_keep e5 ck4
      have ta5 := ta4.keep e5 (by omega)
      have tb5 := tb4.keep e5 (by omega)
      clear hw5 lci4 ci4 ca4 cb4 ck4 ta4 tb4
      refine (l2w_any o l h _ x.a n _ ta5 (by omega) n0 n1 ha _ ga).mono ?_; rintro e w6 ⟨rfl, f6⟩
      have b6 := b5.trans (f6.mono (by omega))
      have z6 := f6.size
      have ci6 := cell_keep f6 ci5
      have ca6 := cell_keep f6 ca5
      have cb6 := cell_keep f6 cb5
      have ck6 := cell_keep f6 ck5
      have ta6 := ta5.keep f6 (by omega)
      have tb6 := tb5.keep f6 (by omega)
      clear ci5 ca5 cb5 ck5 ta5 tb5
      have lci6 : w.heap.size < w6.heap.size := World.block_lt_of_cell? _ _ ci6
      go_wp2_with fail
      refine name_call fun w7 hw7 => ?_
      have b7 : Below w.heap.size w w7 := by rw [hw7]; (repeat (first | with_reducible exact Below.refl _ _ | with_reducible assumption | with_reducible refine Below.drew ?_ | with_reducible refine bdrewN ?_ _ | ((with_reducible refine balloc ?_ ?_ _); (focus (first | with_reducible exact Nat.le_refl _ | (simp; done) | omega | (simp; omega) | exact Nat.le_refl _))) | ((with_reducible refine bset ?_ ?_ _); (focus (first | with_reducible exact Nat.le_refl _ | (simp; done) | omega | (simp; omega) | exact Nat.le_refl _)))))
      have z7 : w6.heap.size + 0 ≤ w7.heap.size := by rw [hw7]; simp
      have e7 : Below w6.heap.size w6 w7 := by rw [hw7]; (repeat (first | with_reducible exact Below.refl _ _ | with_reducible assumption | with_reducible refine Below.drew ?_ | with_reducible refine bdrewN ?_ _ | ((with_reducible refine balloc ?_ ?_ _); (focus (first | with_reducible exact Nat.le_refl _ | (simp; done) | omega | (simp; omega) | exact Nat.le_refl _))) | ((with_reducible refine bset ?_ ?_ _); (focus (first | with_reducible exact Nat.le_refl _ | (simp; done) | omega | (simp; omega) | exact Nat.le_refl _)))))
      have ci7 := cell_keep e7 ci6
      have ca7 := cell_keep e7 ca6
      have cb7 := cell_keep e7 cb6
      have ck7 := cell_keep e7 ck6
      have ta7 := ta6.keep e7 (by omega)
      have tb7 := tb6.keep e7 (by omega)
      clear hw7 lci6 ci6 ca6 cb6 ck6 ta6 tb6
      refine (l2w_any o l h _ x.b n _ tb7 (by omega) n0 n1 hb _ gb).mono ?_; rintro e w8 ⟨rfl, f8⟩
      have b8 := b7.trans (f8.mono (by omega))
      have z8 := f8.size
      have ci8 := cell_keep f8 ci7
      have ca8 := cell_keep f8 ca7
      have cb8 := cell_keep f8 cb7
      have ck8 := cell_keep f8 ck7
      have ta8 := ta7.keep f8 (by omega)
      have tb8 := tb7.keep f8 (by omega)
      clear ci7 ca7 cb7 ck7 ta7 tb7
      go_wp2_with fail
      go_ret
      first | exact ⟨ret_bool HR.out.symm, b8⟩ | exact ⟨ret_bool (by rw [HR.out]; simp; omega), b8⟩
    by_cases z2 : x.k ≤ 30
    case' neg =>
      have P0 : (x.kind == 0) = false := by simp [q1]
      have P1 : (x.kind != 0) = true := by simp [q1]
      have P2 : (x.kind == 3) = false := by simp [q1]
      have P3 : (x.kind != 3) = true := by simp [q1]
      have P4 : (x.kind == 1) = true := by simp [q1]
      have B0 : ¬ 0 < x.b.length := by omega
      have K0 : (x.k == 0) = false := by simp [z0]
      have K1 : 0 < x.k := by omega
      have K2 : ¬ x.k ≤ 30 := by omega
      have HR : Hid (hintW n x = false) := Lib.hid (by rw [HK.out]; unfold kindOk; rw [decide_eq_false_iff_not]; omega)
      clear q1 u0 u1 y0 z0 z1 z2
      clear kf
      go_enter Try.func137, Try.ntmps137
      go_wp2_with fail
      refine name_call fun w1 hw1 => ?_
      have b1 : Below w.heap.size w w1 := by rw [hw1]; (repeat (first | with_reducible exact Below.refl _ _ | with_reducible assumption | with_reducible refine Below.drew ?_ | with_reducible refine bdrewN ?_ _ | ((with_reducible refine balloc ?_ ?_ _); (focus (first | with_reducible exact Nat.le_refl _ | (simp; done) | omega | (simp; omega) | exact Nat.le_refl _))) | ((with_reducible refine bset ?_ ?_ _); (focus (first | with_reducible exact Nat.le_refl _ | (simp; done) | omega | (simp; omega) | exact Nat.le_refl _)))))
      have z1 : w.heap.size + 1 ≤ w1.heap.size := by rw [hw1]; simp
      have e1 : Below w.heap.size w w1 := by rw [hw1]; (repeat (first | with_reducible exact Below.refl _ _ | with_reducible assumption | with_reducible refine Below.drew ?_ | with_reducible refine bdrewN ?_ _ | ((with_reducible refine balloc ?_ ?_ _); (focus (first | with_reducible exact Nat.le_refl _ | (simp; done) | omega | (simp; omega) | exact Nat.le_refl _))) | ((with_reducible refine bset ?_ ?_ _); (focus (first | with_reducible exact Nat.le_refl _ | (simp; done) | omega | (simp; omega) | exact Nat.le_refl _)))))
      have ci1 : w1.cell? ⟨w.heap.size, 0, none⟩ = some (.int .i64 x.kind) := by rw [hw1]; first | (simp; done) | go_simp
      have ca1 : w1.cell? ⟨w.heap.size, 1, none⟩ = some (.slice aa x.a.length ka) := by rw [hw1]; first | (simp; done) | go_simp
      have cb1 : w1.cell? ⟨w.heap.size, 2, none⟩ = some (.slice ab x.b.length kb) := by rw [hw1]; first | (simp; done) | go_simp
      have ck1 : w1.cell? ⟨w.heap.size, 3, none⟩ = some (.int .i64 x.k) := by rw [hw1]; first | (simp; done) | go_simp
      have ta1 := ta.keep e1 (by omega)
      have tb1 := tb.keep e1 (by omega)
      clear hw1
      refine (lok_spec o l h _ x.a _ ta1 (by omega) _ ha).mono ?_; rintro e w2 ⟨rfl, f2⟩
      have b2 := b1.trans (f2.mono (by omega))
      have z2 := f2.size
      have ci2 := cell_keep f2 ci1
      have ca2 := cell_keep f2 ca1
      have cb2 := cell_keep f2 cb1
      have ck2 := cell_keep f2 ck1
      have ta2 := ta1.keep f2 (by omega)
      have tb2 := tb1.keep f2 (by omega)
      clear ci1 ca1 cb1 ck1 ta1 tb1
      have lci2 : w.heap.size < w2.heap.size := World.block_lt_of_cell? _ _ ci2
      go_wp2_with fail
      refine name_call fun w3 hw3 => ?_
      have b3 : Below w.heap.size w w3 := by rw [hw3]; (repeat (first | with_reducible exact Below.refl _ _ | with_reducible assumption | with_reducible refine Below.drew ?_ | with_reducible refine bdrewN ?_ _ | ((with_reducible refine balloc ?_ ?_ _); (focus (first | with_reducible exact Nat.le_refl _ | (simp; done) | omega | (simp; omega) | exact Nat.le_refl _))) | ((with_reducible refine bset ?_ ?_ _); (focus (first | with_reducible exact Nat.le_refl _ | (simp; done) | omega | (simp; omega) | exact Nat.le_refl _)))))
      have z3 : w2.heap.size + 0 ≤ w3.heap.size := by rw [hw3]; simp
      have e3 : Below w2.heap.size w2 w3 := by rw [hw3]; (repeat (first | with_reducible exact Below.refl _ _ | with_reducible assumption | with_reducible refine Below.drew ?_ | with_reducible refine bdrewN ?_ _ | ((with_reducible refine balloc ?_ ?_ _); (focus (first | with_reducible exact Nat.le_refl _ | (simp; done) | omega | (simp; omega) | exact Nat.le_refl _))) | ((with_reducible refine bset ?_ ?_ _); (focus (first | with_reducible exact Nat.le_refl _ | (simp; done) | omega | (simp; omega) | exact Nat.le_refl _)))))
      have ci3 := cell_keep e3 ci2
      have ca3 := cell_keep e3 ca2
      have cb3 := cell_keep e3 cb2
      have ck3 := cell_keep e3 ck2
      have ta3 := ta2.keep e3 (by omega)
      have tb3 := tb2.keep e3 (by omega)
      clear hw3 lci2 ci2 ca2 cb2 ck2 ta2 tb2
      refine (lok_spec o l h _ x.b _ tb3 (by omega) _ hb).mono ?_; rintro e w4 ⟨rfl, f4⟩
      have b4 := b3.trans (f4.mono (by omega))
      have z4 := f4.size
      have ci4 := cell_keep f4 ci3
      have ca4 := cell_keep f4 ca3
      have cb4 := cell_keep f4 cb3
      have ck4 := cell_keep f4 ck3
      have ta4 := ta3.keep f4 (by omega)
      have tb4 := tb3.keep f4 (by omega)
      clear ci3 ca3 cb3 ck3 ta3 tb3
      have lci4 : w.heap.size < w4.heap.size := World.block_lt_of_cell? _ _ ci4
      go_wp2_with fail
      refine name_call fun w5 hw5 => ?_
      have b5 : Below w.heap.size w w5 := by rw [hw5]; (repeat (first | with_reducible exact Below.refl _ _ | with_reducible assumption | with_reducible refine Below.drew ?_ | with_reducible refine bdrewN ?_ _ | ((with_reducible refine balloc ?_ ?_ _); (focus (first | with_reducible exact Nat.le_refl _ | (simp; done) | omega | (simp; omega) | exact Nat.le_refl _))) | ((with_reducible refine bset ?_ ?_ _); (focus (first | with_reducible exact Nat.le_refl _ | (simp; done) | omega | (simp; omega) | exact Nat.le_refl _)))))
      have z5 : w4.heap.size + 0 ≤ w5.heap.size := by rw [hw5]; simp
      have e5 : Below w4.heap.size w4 w5 := by rw [hw5]; (repeat (first | with_reducible exact Below.refl _ _ | with_reducible assumption | with_reducible refine Below.drew ?_ | with_reducible refine bdrewN ?_ _ | ((with_reducible refine balloc ?_ ?_ _); (focus (first | with_reducible exact Nat.le_refl _ | (simp; done) | omega | (simp; omega) | exact Nat.le_refl _))) | ((with_reducible refine bset ?_ ?_ _); (focus (first | with_reducible exact Nat.le_refl _ | (simp; done) | omega | (simp; omega) | exact Nat.le_refl _)))))
      have ci5 := cell_keep e5 ci4
      have ca5 := cell_keep e5 ca4
      have cb5 := cell_keep e5 cb4
      have ck5 := cell_keep e5 ck4
      have ta5 := ta4.keep e5 (by omega)
      have tb5 := tb4.keep e5 (by omega)
      clear hw5 lci4 ci4 ca4 cb4 ck4 ta4 tb4
      refine (l2w_any o l h _ x.a n _ ta5 (by omega) n0 n1 ha _ ga).mono ?_; rintro e w6 ⟨rfl, f6⟩
      have b6 := b5.trans (f6.mono (by omega))
      have z6 := f6.size
      have ci6 := cell_keep f6 ci5
      have ca6 := cell_keep f6 ca5
      have cb6 := cell_keep f6 cb5
      have ck6 := cell_keep f6 ck5
      have ta6 := ta5.keep f6 (by omega)
      have tb6 := tb5.keep f6 (by omega)
      clear ci5 ca5 cb5 ck5 ta5 tb5
      have lci6 : w.heap.size < w6.heap.size := World.block_lt_of_cell? _ _ ci6
      go_wp2_with fail
      refine name_call fun w7 hw7 => ?_
      have b7 : Below w.heap.size w w7 := by rw [hw7]; (repeat (first | with_reducible exact Below.refl _ _ | with_reducible assumption | with_reducible refine Below.drew ?_ | with_reducible refine bdrewN ?_ _ | ((with_reducible refine balloc ?_ ?_ _); (focus (first | with_reducible exact Nat.le_refl _ | (simp; done) | omega | (simp; omega) | exact Nat.le_refl _))) | ((with_reducible refine bset ?_ ?_ _); (focus (first | with_reducible exact Nat.le_refl _ | (simp; done) | omega | (simp; omega) | exact Nat.le_refl _)))))
      have z7 : w6.heap.size + 0 ≤ w7.heap.size := by rw [hw7]; simp
      have e7 : Below w6.heap.size w6 w7 := by rw [hw7]; (repeat (first | with_reducible exact Below.refl _ _ | with_reducible assumption | with_reducible refine Below.drew ?_ | with_reducible refine bdrewN ?_ _ | ((with_reducible refine balloc ?_ ?_ _); (focus (first | with_reducible exact Nat.le_refl _ | (simp; done) | omega | (simp; omega) | exact Nat.le_refl _))) | ((with_reducible refine bset ?_ ?_ _); (focus (first | with_reducible exact Nat.le_refl _ | (simp; done) | omega | (simp; omega) | exact Nat.le_refl _)))))
      have ci7 := cell_keep e7 ci6
      have ca7 := cell_keep e7 ca6
      have cb7 := cell_keep e7 cb6
      have ck7 := cell_keep e7 ck6
      have ta7 := ta6.keep e7 (by omega)
      have tb7 := tb6.keep e7 (by omega)
      clear hw7 lci6 ci6 ca6 cb6 ck6 ta6 tb6
      refine (l2w_any o l h _ x.b n _ tb7 (by omega) n0 n1 hb _ gb).mono ?_; rintro e w8 ⟨rfl, f8⟩
      have b8 := b7.trans (f8.mono (by omega))
      have z8 := f8.size
      have ci8 := cell_keep f8 ci7
      have ca8 := cell_keep f8 ca7
      have cb8 := cell_keep f8 cb7
      have ck8 := cell_keep f8 ck7
      have ta8 := ta7.keep f8 (by omega)
      have tb8 := tb7.keep f8 (by omega)
      clear ci7 ca7 cb7 ck7 ta7 tb7
      go_wp2_with fail
      go_ret
      first | exact ⟨ret_bool HR.out.symm, b8⟩ | exact ⟨ret_bool (by rw [HR.out]; simp; omega), b8⟩
    have P0 : (x.kind == 0) = false := by simp [q1]
    have P1 : (x.kind != 0) = true := by simp [q1]
    have P2 : (x.kind == 3) = false := by simp [q1]
    have P3 : (x.kind != 3) = true := by simp [q1]
    have P4 : (x.kind == 1) = true := by simp [q1]
    have B0 : ¬ 0 < x.b.length := by omega
    have K0 : (x.k == 0) = false := by simp [z0]
    have K1 : 0 < x.k := by omega
    have K2 : x.k ≤ 30 := by omega
    have HR : Hid (hintW n x = true) := Lib.hid (by rw [HK.out]; unfold kindOk; rw [decide_eq_true_iff]; omega)
    clear q1 u0 u1 y0 z0 z1 z2
    clear kf
    go_enter Try.func137, Try.ntmps137
    go_wp2_with fail
    refine name_call fun w1 hw1 => ?_
    have b1 : Below w.heap.size w w1 := by rw [hw1]; (repeat (first | with_reducible exact Below.refl _ _ | with_reducible assumption | with_reducible refine Below.drew ?_ | with_reducible refine bdrewN ?_ _ | ((with_reducible refine balloc ?_ ?_ _); (focus (first | with_reducible exact Nat.le_refl _ | (simp; done) | omega | (simp; omega) | exact Nat.le_refl _))) | ((with_reducible refine bset ?_ ?_ _); (focus (first | with_reducible exact Nat.le_refl _ | (simp; done) | omega | (simp; omega) | exact Nat.le_refl _)))))
    have z1 : w.heap.size + 1 ≤ w1.heap.size := by rw [hw1]; simp
    have e1 : Below w.heap.size w w1 := by rw [hw1]; (repeat (first | with_reducible exact Below.refl _ _ | with_reducible assumption | with_reducible refine Below.drew ?_ | with_reducible refine bdrewN ?_ _ | ((with_reducible refine balloc ?_ ?_ _); (focus (first | with_reducible exact Nat.le_refl _ | (simp; done) | omega | (simp; omega) | exact Nat.le_refl _))) | ((with_reducible refine bset ?_ ?_ _); (focus (first | with_reducible exact Nat.le_refl _ | (simp; done) | omega | (simp; omega) | exact Nat.le_refl _)))))
    have ci1 : w1.cell? ⟨w.heap.size, 0, none⟩ = some (.int .i64 x.kind) := by rw [hw1]; first | (simp; done) | go_simp
    have ca1 : w1.cell? ⟨w.heap.size, 1, none⟩ = some (.slice aa x.a.length ka) := by rw [hw1]; first | (simp; done) | go_simp
    have cb1 : w1.cell? ⟨w.heap.size, 2, none⟩ = some (.slice ab x.b.length kb) := by rw [hw1]; first | (simp; done) | go_simp
    have ck1 : w1.cell? ⟨w.heap.size, 3, none⟩ = some (.int .i64 x.k) := by rw [hw1]; first | (simp; done) | go_simp
    have ta1 := ta.keep e1 (by omega)
    have tb1 := tb.keep e1 (by omega)
    clear hw1
    refine (lok_spec o l h _ x.a _ ta1 (by omega) _ ha).mono ?_; rintro e w2 ⟨rfl, f2⟩
    have b2 := b1.trans (f2.mono (by omega))
    have z2 := f2.size
    have ci2 := cell_keep f2 ci1
    have ca2 := cell_keep f2 ca1
    have cb2 := cell_keep f2 cb1
    have ck2 := cell_keep f2 ck1
    have ta2 := ta1.keep f2 (by omega)
    have tb2 := tb1.keep f2 (by omega)
    clear ci1 ca1 cb1 ck1 ta1 tb1
    have lci2 : w.heap.size < w2.heap.size := World.block_lt_of_cell? _ _ ci2
    go_wp2_with fail
    refine name_call fun w3 hw3 => ?_
    have b3 : Below w.heap.size w w3 := by rw [hw3]; (repeat (first | with_reducible exact Below.refl _ _ | with_reducible assumption | with_reducible refine Below.drew ?_ | with_reducible refine bdrewN ?_ _ | ((with_reducible refine balloc ?_ ?_ _); (focus (first | with_reducible exact Nat.le_refl _ | (simp; done) | omega | (simp; omega) | exact Nat.le_refl _))) | ((with_reducible refine bset ?_ ?_ _); (focus (first | with_reducible exact Nat.le_refl _ | (simp; done) | omega | (simp; omega) | exact Nat.le_refl _)))))
    have z3 : w2.heap.size + 0 ≤ w3.heap.size := by rw [hw3]; simp
    have e3 : Below w2.heap.size w2 w3 := by rw [hw3]; (repeat (first | with_reducible exact Below.refl _ _ | with_reducible assumption | with_reducible refine Below.drew ?_ | with_reducible refine bdrewN ?_ _ | ((with_reducible refine balloc ?_ ?_ _); (focus (first | with_reducible exact Nat.le_refl _ | (simp; done) | omega | (simp; omega) | exact Nat.le_refl _))) | ((with_reducible refine bset ?_ ?_ _); (focus (first | with_reducible exact Nat.le_refl _ | (simp; done) | omega | (simp; omega) | exact Nat.le_refl _)))))
    have ci3 := cell_keep e3 ci2
    have ca3 := cell_keep e3 ca2
    have cb3 := cell_keep e3 cb2
    have ck3 := cell_keep e3 ck2
    have ta3 := ta2.keep e3 (by omega)
    have tb3 := tb2.keep e3 (by omega)
    clear hw3 lci2 ci2 ca2 cb2 ck2 ta2 tb2
    refine (lok_spec o l h _ x.b _ tb3 (by omega) _ hb).mono ?_; rintro e w4 ⟨rfl, f4⟩
    have b4 := b3.trans (f4.mono (by omega))
    have z4 := f4.size
    have ci4 := cell_keep f4 ci3
    have ca4 := cell_keep f4 ca3
    have cb4 := cell_keep f4 cb3
    have ck4 := cell_keep f4 ck3
    have ta4 := ta3.keep f4 (by omega)
    have tb4 := tb3.keep f4 (by omega)
    clear ci3 ca3 cb3 ck3 ta3 tb3
    have lci4 : w.heap.size < w4.heap.size := World.block_lt_of_cell? _ _ ci4
    go_wp2_with fail
    refine name_call fun w5 hw5 => ?_
    have b5 : Below w.heap.size w w5 := by rw [hw5]; (repeat (first | with_reducible exact Below.refl _ _ | with_reducible assumption | with_reducible refine Below.drew ?_ | with_reducible refine bdrewN ?_ _ | ((with_reducible refine balloc ?_ ?_ _); (focus (first | with_reducible exact Nat.le_refl _ | (simp; done) | omega | (simp; omega) | exact Nat.le_refl _))) | ((with_reducible refine bset ?_ ?_ _); (focus (first | with_reducible exact Nat.le_refl _ | (simp; done) | omega | (simp; omega) | exact Nat.le_refl _)))))
    have z5 : w4.heap.size + 0 ≤ w5.heap.size := by rw [hw5]; simp
    have e5 : Below w4.heap.size w4 w5 := by rw [hw5]; (repeat (first | with_reducible exact Below.refl _ _ | with_reducible assumption | with_reducible refine Below.drew ?_ | with_reducible refine bdrewN ?_ _ | ((with_reducible refine balloc ?_ ?_ _); (focus (first | with_reducible exact Nat.le_refl _ | (simp; done) | omega | (simp; omega) | exact Nat.le_refl _))) | ((with_reducible refine bset ?_ ?_ _); (focus (first | with_reducible exact Nat.le_refl _ | (simp; done) | omega | (simp; omega) | exact Nat.le_refl _)))))
    have ci5 := cell_keep e5 ci4
    have ca5 := cell_keep e5 ca4
    have cb5 := cell_keep e5 cb4
    have ck5 := cell_keep e5 ck4
    have ta5 := ta4.keep e5 (by omega)
    have tb5 := tb4.keep e5 (by omega)
    clear hw5 lci4 ci4 ca4 cb4 ck4 ta4 tb4
    refine (l2w_any o l h _ x.a n _ ta5 (by omega) n0 n1 ha _ ga).mono ?_; rintro e w6 ⟨rfl, f6⟩
    have b6 := b5.trans (f6.mono (by omega))
    have z6 := f6.size
    have ci6 := cell_keep f6 ci5
    have ca6 := cell_keep f6 ca5
    have cb6 := cell_keep f6 cb5
    have ck6 := cell_keep f6 ck5
    have ta6 := ta5.keep f6 (by omega)
    have tb6 := tb5.keep f6 (by omega)
    clear ci5 ca5 cb5 ck5 ta5 tb5
    have lci6 : w.heap.size < w6.heap.size := World.block_lt_of_cell? _ _ ci6
    go_wp2_with fail
    refine name_call fun w7 hw7 => ?_
    have b7 : Below w.heap.size w w7 := by rw [hw7]; (repeat (first | with_reducible exact Below.refl _ _ | with_reducible assumption | with_reducible refine Below.drew ?_ | with_reducible refine bdrewN ?_ _ | ((with_reducible refine balloc ?_ ?_ _); (focus (first | with_reducible exact Nat.le_refl _ | (simp; done) | omega | (simp; omega) | exact Nat.le_refl _))) | ((with_reducible refine bset ?_ ?_ _); (focus (first | with_reducible exact Nat.le_refl _ | (simp; done) | omega | (simp; omega) | exact Nat.le_refl _)))))
    have z7 : w6.heap.size + 0 ≤ w7.heap.size := by rw [hw7]; simp
    have e7 : Below w6.heap.size w6 w7 := by rw [hw7]; (repeat (first | with_reducible exact Below.refl _ _ | with_reducible assumption | with_reducible refine Below.drew ?_ | with_reducible refine bdrewN ?_ _ | ((with_reducible refine balloc ?_ ?_ _); (focus (first | with_reducible exact Nat.le_refl _ | (simp; done) | omega | (simp; omega) | exact Nat.le_refl _))) | ((with_reducible refine bset ?_ ?_ _); (focus (first | with_reducible exact Nat.le_refl _ | (simp; done) | omega | (simp; omega) | exact Nat.le_refl _)))))
    have ci7 := cell_keep e7 ci6
    have ca7 := cell_keep e7 ca6
    have cb7 := cell_keep e7 cb6
    have ck7 := cell_keep e7 ck6
    have ta7 := ta6.keep e7 (by omega)
    have tb7 := tb6.keep e7 (by omega)
    clear hw7 lci6 ci6 ca6 cb6 ck6 ta6 tb6
    refine (l2w_any o l h _ x.b n _ tb7 (by omega) n0 n1 hb _ gb).mono ?_; rintro e w8 ⟨rfl, f8⟩
    have b8 := b7.trans (f8.mono (by omega))
    have z8 := f8.size
    have ci8 := cell_keep f8 ci7
    have ca8 := cell_keep f8 ca7
    have cb8 := cell_keep f8 cb7
    have ck8 := cell_keep f8 ck7
    have ta8 := ta7.keep f8 (by omega)
    have tb8 := tb7.keep f8 (by omega)
    clear ci7 ca7 cb7 ck7 ta7 tb7
    go_wp2_with fail
    go_ret
    first | exact ⟨ret_bool HR.out.symm, b8⟩ | exact ⟨ret_bool (by rw [HR.out]; simp; omega), b8⟩
  have q2 : x.kind = 2 := by omega
  by_cases y0 : x.b.length = 0
  case' neg =>
    have P0 : (x.kind == 0) = false := by simp [q2]
    have P1 : (x.kind != 0) = true := by simp [q2]
    have P2 : (x.kind == 3) = false := by simp [q2]
    have P3 : (x.kind != 3) = true := by simp [q2]
    have P4 : (x.kind == 1) = false := by simp [q2]
    have B0 : 0 < x.b.length := by omega
    have HR : Hid (hintW n x = false) := Lib.hid (by rw [HK.out]; unfold kindOk; rw [decide_eq_false_iff_not]; omega)
    clear q2 u0 u1 y0
    clear kf
    go_enter Try.func137, Try.ntmps137
    go_wp2_with fail
    refine name_call fun w1 hw1 => ?_
    have b1 : Below w.heap.size w w1 := by rw [hw1]; (repeat (first | with_reducible exact Below.refl _ _ | with_reducible assumption | with_reducible refine Below.drew ?_ | with_reducible refine bdrewN ?_ _ | ((with_reducible refine balloc ?_ ?_ _); (focus (first | with_reducible exact Nat.le_refl _ | (simp; done) | omega | (simp; omega) | exact Nat.le_refl _))) | ((with_reducible refine bset ?_ ?_ _); (focus (first | with_reducible exact Nat.le_refl _ | (simp; done) | omega | (simp; omega) | exact Nat.le_refl _)))))
    have z1 : w.heap.size + 1 ≤ w1.heap.size := by rw [hw1]; simp
    have e1 : Below w.heap.size w w1 := by rw [hw1]; (repeat (first | with_reducible exact Below.refl _ _ | with_reducible assumption | with_reducible refine Below.drew ?_ | with_reducible refine bdrewN ?_ _ | ((with_reducible refine balloc ?_ ?_ _); (focus (first | with_reducible exact Nat.le_refl _ | (simp; done) | omega | (simp; omega) | exact Nat.le_refl _))) | ((with_reducible refine bset ?_ ?_ _); (focus (first | with_reducible exact Nat.le_refl _ | (simp; done) | omega | (simp; omega) | exact Nat.le_refl _)))))
    have ci1 : w1.cell? ⟨w.heap.size, 0, none⟩ = some (.int .i64 x.kind) := by rw [hw1]; first | (simp; done) | go_simp
    have ca1 : w1.cell? ⟨w.heap.size, 1, none⟩ = some (.slice aa x.a.length ka) := by rw [hw1]; first | (simp; done) | go_simp
    have cb1 : w1.cell? ⟨w.heap.size, 2, none⟩ = some (.slice ab x.b.length kb) := by rw [hw1]; first | (simp; done) | go_simp
    have ck1 : w1.cell? ⟨w.heap.size, 3, none⟩ = some (.int .i64 x.k) := by rw [hw1]; first | (simp; done) | go_simp
    have ta1 := ta.keep e1 (by omega)
    have tb1 := tb.keep e1 (by omega)
    clear hw1
    refine (lok_spec o l h _ x.a _ ta1 (by omega) _ ha).mono ?_; rintro e w2 ⟨rfl, f2⟩
    have b2 := b1.trans (f2.mono (by omega))
    have z2 := f2.size
    have ci2 := cell_keep f2 ci1
    have ca2 := cell_keep f2 ca1
    have cb2 := cell_keep f2 cb1
    have ck2 := cell_keep f2 ck1
    have ta2 := ta1.keep f2 (by omega)
    have tb2 := tb1.keep f2 (by omega)
    clear ci1 ca1 cb1 ck1 ta1 tb1
    have lci2 : w.heap.size < w2.heap.size := World.block_lt_of_cell? _ _ ci2
    go_wp2_with fail
    refine name_call fun w3 hw3 => ?_
    have b3 : Below w.heap.size w w3 := by rw [hw3]; (repeat (first | with_reducible exact Below.refl _ _ | with_reducible assumption | with_reducible refine Below.drew ?_ | with_reducible refine bdrewN ?_ _ | ((with_reducible refine balloc ?_ ?_ _); (focus (first | with_reducible exact Nat.le_refl _ | (simp; done) | omega | (simp; omega) | exact Nat.le_refl _))) | ((with_reducible refine bset ?_ ?_ _); (focus (first | with_reducible exact Nat.le_refl _ | (simp; done) | omega | (simp; omega) | exact Nat.le_refl _)))))
    have z3 : w2.heap.size + 0 ≤ w3.heap.size := by rw [hw3]; simp
    have e3 : Below w2.heap.size w2 w3 := by rw [hw3]; (repeat (first | with_reducible exact Below.refl _ _ | with_reducible assumption | with_reducible refine Below.drew ?_ | with_reducible refine bdrewN ?_ _ | ((with_reducible refine balloc ?_ ?_ _); (focus (first | with_reducible exact Nat.le_refl _ | (simp; done) | omega | (simp; omega) | exact Nat.le_refl _))) | ((with_reducible refine bset ?_ ?_ _); (focus (first | with_reducible exact Nat.le_refl _ | (simp; done) | omega | (simp; omega) | exact Nat.le_refl _)))))
    have ci3 := cell_keep e3 ci2
    have ca3 := cell_keep e3 ca2
    have cb3 := cell_keep e3 cb2
    have ck3 := cell_keep e3 ck2
    have ta3 := ta2.keep e3 (by omega)
    have tb3 := tb2.keep e3 (by omega)
    clear hw3 lci2 ci2 ca2 cb2 ck2 ta2 tb2
    refine (lok_spec o l h _ x.b _ tb3 (by omega) _ hb).mono ?_; rintro e w4 ⟨rfl, f4⟩
    have b4 := b3.trans (f4.mono (by omega))
    have z4 := f4.size
    have ci4 := cell_keep f4 ci3
    have ca4 := cell_keep f4 ca3
    have cb4 := cell_keep f4 cb3
    have ck4 := cell_keep f4 ck3
    have ta4 := ta3.keep f4 (by omega)
    have tb4 := tb3.keep f4 (by omega)
    clear ci3 ca3 cb3 ck3 ta3 tb3
    have lci4 : w.heap.size < w4.heap.size := World.block_lt_of_cell? _ _ ci4
    go_wp2_with fail
    refine name_call fun w5 hw5 => ?_
    have b5 : Below w.heap.size w w5 := by rw [hw5]; (repeat (first | with_reducible exact Below.refl _ _ | with_reducible assumption | with_reducible refine Below.drew ?_ | with_reducible refine bdrewN ?_ _ | ((with_reducible refine balloc ?_ ?_ _); (focus (first | with_reducible exact Nat.le_refl _ | (simp; done) | omega | (simp; omega) | exact Nat.le_refl _))) | ((with_reducible refine bset ?_ ?_ _); (focus (first | with_reducible exact Nat.le_refl _ | (simp; done) | omega | (simp; omega) | exact Nat.le_refl _)))))
    have z5 : w4.heap.size + 0 ≤ w5.heap.size := by rw [hw5]; simp
    have e5 : Below w4.heap.size w4 w5 := by rw [hw5]; (repeat (first | with_reducible exact Below.refl _ _ | with_reducible assumption | with_reducible refine Below.drew ?_ | with_reducible refine bdrewN ?_ _ | ((with_reducible refine balloc ?_ ?_ _); (focus (first | with_reducible exact Nat.le_refl _ | (simp; done) | omega | (simp; omega) | exact Nat.le_refl _))) | ((with_reducible refine bset ?_ ?_ _); (focus (first | with_reducible exact Nat.le_refl _ | (simp; done) | omega | (simp; omega) | exact Nat.le_refl _)))))
    have ci5 := cell_keep e5 ci4
    have ca5 := cell_keep e5 ca4
    have cb5 := cell_keep e5 cb4
    have ck5 := cell_keep e5 ck4
    have ta5 := ta4.keep e5 (by omega)
    have tb5 := tb4.keep e5 (by omega)
    clear hw5 lci4 ci4 ca4 cb4 ck4 ta4 tb4
    refine (l2w_any o l h _ x.a n _ ta5 (by omega) n0 n1 ha _ ga).mono ?_; rintro e w6 ⟨rfl, f6⟩
    have b6 := b5.trans (f6.mono (by omega))
    have z6 := f6.size
    have ci6 := cell_keep f6 ci5
    have ca6 := cell_keep f6 ca5
    have cb6 := cell_keep f6 cb5
    have ck6 := cell_keep f6 ck5
    have ta6 := ta5.keep f6 (by omega)
    have tb6 := tb5.keep f6 (by omega)
    clear ci5 ca5 cb5 ck5 ta5 tb5
    have lci6 : w.heap.size < w6.heap.size := World.block_lt_of_cell? _ _ ci6
    go_wp2_with fail
    refine name_call fun w7 hw7 => ?_
    have b7 : Below w.heap.size w w7 := by rw [hw7]; (repeat (first | with_reducible exact Below.refl _ _ | with_reducible assumption | with_reducible refine Below.drew ?_ | with_reducible refine bdrewN ?_ _ | ((with_reducible refine balloc ?_ ?_ _); (focus (first | with_reducible exact Nat.le_refl _ | (simp; done) | omega | (simp; omega) | exact Nat.le_refl _))) | ((with_reducible refine bset ?_ ?_ _); (focus (first | with_reducible exact Nat.le_refl _ | (simp; done) | omega | (simp; omega) | exact Nat.le_refl _)))))
    have z7 : w6.heap.size + 0 ≤ w7.heap.size := by rw [hw7]; simp
    have e7 : Below w6.heap.size w6 w7 := by rw [hw7]; (repeat (first | with_reducible exact Below.refl _ _ | with_reducible assumption | with_reducible refine Below.drew ?_ | with_reducible refine bdrewN ?_ _ | ((with_reducible refine balloc ?_ ?_ _); (focus (first | with_reducible exact Nat.le_refl _ | (simp; done) | omega | (simp; omega) | exact Nat.le_refl _))) | ((with_reducible refine bset ?_ ?_ _); (focus (first | with_reducible exact Nat.le_refl _ | (simp; done) | omega | (simp; omega) | exact Nat.le_refl _)))))
    have ci7 := cell_keep e7 ci6
    have ca7 := cell_keep e7 ca6
    have cb7 := cell_keep e7 cb6
    have ck7 := cell_keep e7 ck6
    have ta7 := ta6.keep e7 (by omega)
    have tb7 := tb6.keep e7 (by omega)
    clear hw7 lci6 ci6 ca6 cb6 ck6 ta6 tb6
    refine (l2w_any o l h _ x.b n _ tb7 (by omega) n0 n1 hb _ gb).mono ?_; rintro e w8 ⟨rfl, f8⟩
    have b8 := b7.trans (f8.mono (by omega))
    have z8 := f8.size
    have ci8 := cell_keep f8 ci7
    have ca8 := cell_keep f8 ca7
    have cb8 := cell_keep f8 cb7
    have ck8 := cell_keep f8 ck7
    have ta8 := ta7.keep f8 (by omega)
    have tb8 := tb7.keep f8 (by omega)
    clear ci7 ca7 cb7 ck7 ta7 tb7
    go_wp2_with fail
    go_ret
    first | exact ⟨ret_bool HR.out.symm, b8⟩ | exact ⟨ret_bool (by rw [HR.out]; simp; omega), b8⟩
  by_cases z0 : x.k = 0
  · have P0 : (x.kind == 0) = false := by simp [q2]
    have P1 : (x.kind != 0) = true := by simp [q2]
    have P2 : (x.kind == 3) = false := by simp [q2]
    have P3 : (x.kind != 3) = true := by simp [q2]
    have P4 : (x.kind == 1) = false := by simp [q2]
    have B0 : ¬ 0 < x.b.length := by omega
    have K0 : (x.k == 0) = true := by simp [z0]
    have HR : Hid (hintW n x = true) := Lib.hid (by rw [HK.out]; unfold kindOk; rw [decide_eq_true_iff]; omega)
    clear q2 u0 u1 y0 z0
    clear kf
    go_enter Try.func137, Try.ntmps137
    go_wp2_with fail
    refine name_call fun w1 hw1 => ?_
    have b1 : Below w.heap.size w w1 := by rw [hw1]; (repeat (first | with_reducible exact Below.refl _ _ | with_reducible assumption | with_reducible refine Below.drew ?_ | with_reducible refine bdrewN ?_ _ | ((with_reducible refine balloc ?_ ?_ _); (focus (first | with_reducible exact Nat.le_refl _ | (simp; done) | omega | (simp; omega) | exact Nat.le_refl _))) | ((with_reducible refine bset ?_ ?_ _); (focus (first | with_reducible exact Nat.le_refl _ | (simp; done) | omega | (simp; omega) | exact Nat.le_refl _)))))
    have z1 : w.heap.size + 1 ≤ w1.heap.size := by rw [hw1]; simp
    have e1 : Below w.heap.size w w1 := by rw [hw1]; (repeat (first | with_reducible exact Below.refl _ _ | with_reducible assumption | with_reducible refine Below.drew ?_ | with_reducible refine bdrewN ?_ _ | ((with_reducible refine balloc ?_ ?_ _); (focus (first | with_reducible exact Nat.le_refl _ | (simp; done) | omega | (simp; omega) | exact Nat.le_refl _))) | ((with_reducible refine bset ?_ ?_ _); (focus (first | with_reducible exact Nat.le_refl _ | (simp; done) | omega | (simp; omega) | exact Nat.le_refl _)))))
    have ci1 : w1.cell? ⟨w.heap.size, 0, none⟩ = some (.int .i64 x.kind) := by rw [hw1]; first | (simp; done) | go_simp
    have ca1 : w1.cell? ⟨w.heap.size, 1, none⟩ = some (.slice aa x.a.length ka) := by rw [hw1]; first | (simp; done) | go_simp
    have cb1 : w1.cell? ⟨w.heap.size, 2, none⟩ = some (.slice ab x.b.length kb) := by rw [hw1]; first | (simp; done) | go_simp
    have ck1 : w1.cell? ⟨w.heap.size, 3, none⟩ = some (.int .i64 x.k) := by rw [hw1]; first | (simp; done) | go_simp
    have ta1 := ta.keep e1 (by omega)
    have tb1 := tb.keep e1 (by omega)
    clear hw1
    refine (lok_spec o l h _ x.a _ ta1 (by omega) _ ha).mono ?_; rintro e w2 ⟨rfl, f2⟩
    have b2 := b1.trans (f2.mono (by omega))
    have z2 := f2.size
    have ci2 := cell_keep f2 ci1
    have ca2 := cell_keep f2 ca1
    have cb2 := cell_keep f2 cb1
    have ck2 := cell_keep f2 ck1
    have ta2 := ta1.keep f2 (by omega)
    have tb2 := tb1.keep f2 (by omega)
    clear ci1 ca1 cb1 ck1 ta1 tb1
    have lci2 : w.heap.size < w2.heap.size := World.block_lt_of_cell? _ _ ci2
    go_wp2_with fail
    refine name_call fun w3 hw3 => ?_
    have b3 : Below w.heap.size w w3 := by rw [hw3]; (repeat (first | with_reducible exact Below.refl _ _ | with_reducible assumption | with_reducible refine Below.drew ?_ | with_reducible refine bdrewN ?_ _ | ((with_reducible refine balloc ?_ ?_ _); (focus (first | with_reducible exact Nat.le_refl _ | (simp; done) | omega | (simp; omega) | exact Nat.le_refl _))) | ((with_reducible refine bset ?_ ?_ _); (focus (first | with_reducible exact Nat.le_refl _ | (simp; done) | omega | (simp; omega) | exact Nat.le_refl _)))))
    have z3 : w2.heap.size + 0 ≤ w3.heap.size := by rw [hw3]; simp
    have e3 : Below w2.heap.size w2 w3 := by rw [hw3]; (repeat (first | with_reducible exact Below.refl _ _ | with_reducible assumption | with_reducible refine Below.drew ?_ | with_reducible refine bdrewN ?_ _ | ((with_reducible refine balloc ?_ ?_ _); (focus (first | with_reducible exact Nat.le_refl _ | (simp; done) | omega | (simp; omega) | exact Nat.le_refl _))) | ((with_reducible refine bset ?_ ?_ _); (focus (first | with_reducible exact Nat.le_refl _ | (simp; done) | omega | (simp; omega) | exact Nat.le_refl _)))))
    have ci3 := cell_keep e3 ci2
    have ca3 := cell_keep e3 ca2
    have cb3 := cell_keep e3 cb2
    have ck3 := cell_keep e3 ck2
    have ta3 := ta2.keep e3 (by omega)
    have tb3 := tb2.keep e3 (by omega)
    clear hw3 lci2 ci2 ca2 cb2 ck2 ta2 tb2
    refine (lok_spec o l h _ x.b _ tb3 (by omega) _ hb).mono ?_; rintro e w4 ⟨rfl, f4⟩
    have b4 := b3.trans (f4.mono (by omega))
    have z4 := f4.size
    have ci4 := cell_keep f4 ci3
    have ca4 := cell_keep f4 ca3
    have cb4 := cell_keep f4 cb3
    have ck4 := cell_keep f4 ck3
    have ta4 := ta3.keep f4 (by omega)
    have tb4 := tb3.keep f4 (by omega)
    clear ci3 ca3 cb3 ck3 ta3 tb3
    have lci4 : w.heap.size < w4.heap.size := World.block_lt_of_cell? _ _ ci4
    go_wp2_with fail
    refine name_call fun w5 hw5 => ?_
    have b5 : Below w.heap.size w w5 := by rw [hw5]; (repeat (first | with_reducible exact Below.refl _ _ | with_reducible assumption | with_reducible refine Below.drew ?_ | with_reducible refine bdrewN ?_ _ | ((with_reducible refine balloc ?_ ?_ _); (focus (first | with_reducible exact Nat.le_refl _ | (simp; done) | omega | (simp; omega) | exact Nat.le_refl _))) | ((with_reducible refine bset ?_ ?_ _); (focus (first | with_reducible exact Nat.le_refl _ | (simp; done) | omega | (simp; omega) | exact Nat.le_refl _)))))
    have z5 : w4.heap.size + 0 ≤ w5.heap.size := by rw [hw5]; simp
    have e5 : Below w4.heap.size w4 w5 := by rw [hw5]; (repeat (first | with_reducible exact Below.refl _ _ | with_reducible assumption | with_reducible refine Below.drew ?_ | with_reducible refine bdrewN ?_ _ | ((with_reducible refine balloc ?_ ?_ _); (focus (first | with_reducible exact Nat.le_refl _ | (simp; done) | omega | (simp; omega) | exact Nat.le_refl _))) | ((with_reducible refine bset ?_ ?_ _); (focus (first | with_reducible exact Nat.le_refl _ | (simp; done) | omega | (simp; omega) | exact Nat.le_refl _)))))
    have ci5 := cell_keep e5 ci4
    have ca5 := cell_keep e5 ca4
    have cb5 := cell_keep e5 cb4
    have ck5 := cell_keep e5 ck4
    have ta5 := ta4.keep e5 (by omega)
    have tb5 := tb4.keep e5 (by omega)
    clear hw5 lci4 ci4 ca4 cb4 ck4 ta4 tb4
    refine (l2w_any o l h _ x.a n _ ta5 (by omega) n0 n1 ha _ ga).mono ?_; rintro e w6 ⟨rfl, f6⟩
    have b6 := b5.trans (f6.mono (by omega))
    have z6 := f6.size
    have ci6 := cell_keep f6 ci5
    have ca6 := cell_keep f6 ca5
    have cb6 := cell_keep f6 cb5
    have ck6 := cell_keep f6 ck5
    have ta6 := ta5.keep f6 (by omega)
    have tb6 := tb5.keep f6 (by omega)
    clear ci5 ca5 cb5 ck5 ta5 tb5
    have lci6 : w.heap.size < w6.heap.size := World.block_lt_of_cell? _ _ ci6
    go_wp2_with fail
    refine name_call fun w7 hw7 => ?_
    have b7 : Below w.heap.size w w7 := by rw [hw7]; (repeat (first | with_reducible exact Below.refl _ _ | with_reducible assumption | with_reducible refine Below.drew ?_ | with_reducible refine bdrewN ?_ _ | ((with_reducible refine balloc ?_ ?_ _); (focus (first | with_reducible exact Nat.le_refl _ | (simp; done) | omega | (simp; omega) | exact Nat.le_refl _))) | ((with_reducible refine bset ?_ ?_ _); (focus (first | with_reducible exact Nat.le_refl _ | (simp; done) | omega | (simp; omega) | exact Nat.le_refl _)))))
    have z7 : w6.heap.size + 0 ≤ w7.heap.size := by rw [hw7]; simp
    have e7 : Below w6.heap.size w6 w7 := by rw [hw7]; (repeat (first | with_reducible exact Below.refl _ _ | with_reducible assumption | with_reducible refine Below.drew ?_ | with_reducible refine bdrewN ?_ _ | ((with_reducible refine balloc ?_ ?_ _); (focus (first | with_reducible exact Nat.le_refl _ | (simp; done) | omega | (simp; omega) | exact Nat.le_refl _))) | ((with_reducible refine bset ?_ ?_ _); (focus (first | with_reducible exact Nat.le_refl _ | (simp; done) | omega | (simp; omega) | exact Nat.le_refl _)))))
    have ci7 := cell_keep e7 ci6
    have ca7 := cell_keep e7 ca6
    have cb7 := cell_keep e7 cb6
    have ck7 := cell_keep e7 ck6
    have ta7 := ta6.keep e7 (by omega)
    have tb7 := tb6.keep e7 (by omega)
    clear hw7 lci6 ci6 ca6 cb6 ck6 ta6 tb6
    refine (l2w_any o l h _ x.b n _ tb7 (by omega) n0 n1 hb _ gb).mono ?_; rintro e w8 ⟨rfl, f8⟩
    have b8 := b7.trans (f8.mono (by omega))
    have z8 := f8.size
    have ci8 := cell_keep f8 ci7
    have ca8 := cell_keep f8 ca7
    have cb8 := cell_keep f8 cb7
    have ck8 := cell_keep f8 ck7
    have ta8 := ta7.keep f8 (by omega)
    have tb8 := tb7.keep f8 (by omega)
    clear ci7 ca7 cb7 ck7 ta7 tb7
    go_wp2_with fail
    go_ret
    first | exact ⟨ret_bool HR.out.symm, b8⟩ | exact ⟨ret_bool (by rw [HR.out]; simp; omega), b8⟩
  · have P0 : (x.kind == 0) = false := by simp [q2]
    have P1 : (x.kind != 0) = true := by simp [q2]
    have P2 : (x.kind == 3) = false := by simp [q2]
    have P3 : (x.kind != 3) = true := by simp [q2]
    have P4 : (x.kind == 1) = false := by simp [q2]
    have B0 : ¬ 0 < x.b.length := by omega
    have K0 : (x.k == 0) = false := by simp [z0]
    have HR : Hid (hintW n x = false) := Lib.hid (by rw [HK.out]; unfold kindOk; rw [decide_eq_false_iff_not]; omega)
    clear q2 u0 u1 y0 z0
    clear kf
    go_enter Try.func137, Try.ntmps137
    go_wp2_with fail
    refine name_call fun w1 hw1 => ?_
    have b1 : Below w.heap.size w w1 := by rw [hw1]; (repeat (first | with_reducible exact Below.refl _ _ | with_reducible assumption | with_reducible refine Below.drew ?_ | with_reducible refine bdrewN ?_ _ | ((with_reducible refine balloc ?_ ?_ _); (focus (first | with_reducible exact Nat.le_refl _ | (simp; done) | omega | (simp; omega) | exact Nat.le_refl _))) | ((with_reducible refine bset ?_ ?_ _); (focus (first | with_reducible exact Nat.le_refl _ | (simp; done) | omega | (simp; omega) | exact Nat.le_refl _)))))
    have z1 : w.heap.size + 1 ≤ w1.heap.size := by rw [hw1]; simp
    have e1 : Below w.heap.size w w1 := by rw [hw1]; (repeat (first | with_reducible exact Below.refl _ _ | with_reducible assumption | with_reducible refine Below.drew ?_ | with_reducible refine bdrewN ?_ _ | ((with_reducible refine balloc ?_ ?_ _); (focus (first | with_reducible exact Nat.le_refl _ | (simp; done) | omega | (simp; omega) | exact Nat.le_refl _))) | ((with_reducible refine bset ?_ ?_ _); (focus (first | with_reducible exact Nat.le_refl _ | (simp; done) | omega | (simp; omega) | exact Nat.le_refl _)))))
    have ci1 : w1.cell? ⟨w.heap.size, 0, none⟩ = some (.int .i64 x.kind) := by rw [hw1]; first | (simp; done) | go_simp
    have ca1 : w1.cell? ⟨w.heap.size, 1, none⟩ = some (.slice aa x.a.length ka) := by rw [hw1]; first | (simp; done) | go_simp
    have cb1 : w1.cell? ⟨w.heap.size, 2, none⟩ = some (.slice ab x.b.length kb) := by rw [hw1]; first | (simp; done) | go_simp
    have ck1 : w1.cell? ⟨w.heap.size, 3, none⟩ = some (.int .i64 x.k) := by rw [hw1]; first | (simp; done) | go_simp
    have ta1 := ta.keep e1 (by omega)
    have tb1 := tb.keep e1 (by omega)
    clear hw1
    refine (lok_spec o l h _ x.a _ ta1 (by omega) _ ha).mono ?_; rintro e w2 ⟨rfl, f2⟩
    have b2 := b1.trans (f2.mono (by omega))
    have z2 := f2.size
    have ci2 := cell_keep f2 ci1
    have ca2 := cell_keep f2 ca1
    have cb2 := cell_keep f2 cb1
    have ck2 := cell_keep f2 ck1
    have ta2 := ta1.keep f2 (by omega)
    have tb2 := tb1.keep f2 (by omega)
    clear ci1 ca1 cb1 ck1 ta1 tb1
    have lci2 : w.heap.size < w2.heap.size := World.block_lt_of_cell? _ _ ci2
    go_wp2_with fail
    refine name_call fun w3 hw3 => ?_
    have b3 : Below w.heap.size w w3 := by rw [hw3]; (repeat (first | with_reducible exact Below.refl _ _ | with_reducible assumption | with_reducible refine Below.drew ?_ | with_reducible refine bdrewN ?_ _ | ((with_reducible refine balloc ?_ ?_ _); (focus (first | with_reducible exact Nat.le_refl _ | (simp; done) | omega | (simp; omega) | exact Nat.le_refl _))) | ((with_reducible refine bset ?_ ?_ _); (focus (first | with_reducible exact Nat.le_refl _ | (simp; done) | omega | (simp; omega) | exact Nat.le_refl _)))))
    have z3 : w2.heap.size + 0 ≤ w3.heap.size := by rw [hw3]; simp
    have e3 : Below w2.heap.size w2 w3 := by rw [hw3]; (repeat (first | with_reducible exact Below.refl _ _ | with_reducible assumption | with_reducible refine Below.drew ?_ | with_reducible refine bdrewN ?_ _ | ((with_reducible refine balloc ?_ ?_ _); (focus (first | with_reducible exact Nat.le_refl _ | (simp; done) | omega | (simp; omega) | exact Nat.le_refl _))) | ((with_reducible refine bset ?_ ?_ _); (focus (first | with_reducible exact Nat.le_refl _ | (simp; done) | omega | (simp; omega) | exact Nat.le_refl _)))))
    have ci3 := cell_keep e3 ci2
    have ca3 := cell_keep e3 ca2
    have cb3 := cell_keep e3 cb2
    have ck3 := cell_keep e3 ck2
    have ta3 := ta2.keep e3 (by omega)
    have tb3 := tb2.keep e3 (by omega)
    clear hw3 lci2 ci2 ca2 cb2 ck2 ta2 tb2
    refine (lok_spec o l h _ x.b _ tb3 (by omega) _ hb).mono ?_; rintro e w4 ⟨rfl, f4⟩
    have b4 := b3.trans (f4.mono (by omega))
    have z4 := f4.size
    have ci4 := cell_keep f4 ci3
    have ca4 := cell_keep f4 ca3
    have cb4 := cell_keep f4 cb3
    have ck4 := cell_keep f4 ck3
    have ta4 := ta3.keep f4 (by omega)
    have tb4 := tb3.keep f4 (by omega)
    clear ci3 ca3 cb3 ck3 ta3 tb3
    have lci4 : w.heap.size < w4.heap.size := World.block_lt_of_cell? _ _ ci4
    go_wp2_with fail
    refine name_call fun w5 hw5 => ?_
    have b5 : Below w.heap.size w w5 := by rw [hw5]; (repeat (first | with_reducible exact Below.refl _ _ | with_reducible assumption | with_reducible refine Below.drew ?_ | with_reducible refine bdrewN ?_ _ | ((with_reducible refine balloc ?_ ?_ _); (focus (first | with_reducible exact Nat.le_refl _ | (simp; done) | omega | (simp; omega) | exact Nat.le_refl _))) | ((with_reducible refine bset ?_ ?_ _); (focus (first | with_reducible exact Nat.le_refl _ | (simp; done) | omega | (simp; omega) | exact Nat.le_refl _)))))
    have z5 : w4.heap.size + 0 ≤ w5.heap.size := by rw [hw5]; simp
    have e5 : Below w4.heap.size w4 w5 := by rw [hw5]; (repeat (first | with_reducible exact Below.refl _ _ | with_reducible assumption | with_reducible refine Below.drew ?_ | with_reducible refine bdrewN ?_ _ | ((with_reducible refine balloc ?_ ?_ _); (focus (first | with_reducible exact Nat.le_refl _ | (simp; done) | omega | (simp; omega) | exact Nat.le_refl _))) | ((with_reducible refine bset ?_ ?_ _); (focus (first | with_reducible exact Nat.le_refl _ | (simp; done) | omega | (simp; omega) | exact Nat.le_refl _)))))
    have ci5 := cell_keep e5 ci4
    have ca5 := cell_keep e5 ca4
    have cb5 := cell_keep e5 cb4
    have ck5 := cell_keep e5 ck4
    have ta5 := ta4.keep e5 (by omega)
    have tb5 := tb4.keep e5 (by omega)
    clear hw5 lci4 ci4 ca4 cb4 ck4 ta4 tb4
    refine (l2w_any o l h _ x.a n _ ta5 (by omega) n0 n1 ha _ ga).mono ?_; rintro e w6 ⟨rfl, f6⟩
    have b6 := b5.trans (f6.mono (by omega))
    have z6 := f6.size
    have ci6 := cell_keep f6 ci5
    have ca6 := cell_keep f6 ca5
    have cb6 := cell_keep f6 cb5
    have ck6 := cell_keep f6 ck5
    have ta6 := ta5.keep f6 (by omega)
    have tb6 := tb5.keep f6 (by omega)
    clear ci5 ca5 cb5 ck5 ta5 tb5
    have lci6 : w.heap.size < w6.heap.size := World.block_lt_of_cell? _ _ ci6
    go_wp2_with fail
    refine name_call fun w7 hw7 => ?_
    have b7 : Below w.heap.size w w7 := by rw [hw7]; (repeat (first | with_reducible exact Below.refl _ _ | with_reducible assumption | with_reducible refine Below.drew ?_ | with_reducible refine bdrewN ?_ _ | ((with_reducible refine balloc ?_ ?_ _); (focus (first | with_reducible exact Nat.le_refl _ | (simp; done) | omega | (simp; omega) | exact Nat.le_refl _))) | ((with_reducible refine bset ?_ ?_ _); (focus (first | with_reducible exact Nat.le_refl _ | (simp; done) | omega | (simp; omega) | exact Nat.le_refl _)))))
    have z7 : w6.heap.size + 0 ≤ w7.heap.size := by rw [hw7]; simp
    have e7 : Below w6.heap.size w6 w7 := by rw [hw7]; (repeat (first | with_reducible exact Below.refl _ _ | with_reducible assumption | with_reducible refine Below.drew ?_ | with_reducible refine bdrewN ?_ _ | ((with_reducible refine balloc ?_ ?_ _); (focus (first | with_reducible exact Nat.le_refl _ | (simp; done) | omega | (simp; omega) | exact Nat.le_refl _))) | ((with_reducible refine bset ?_ ?_ _); (focus (first | with_reducible exact Nat.le_refl _ | (simp; done) | omega | (simp; omega) | exact Nat.le_refl _)))))
    have ci7 := cell_keep e7 ci6
    have ca7 := cell_keep e7 ca6
    have cb7 := cell_keep e7 cb6
    have ck7 := cell_keep e7 ck6
    have ta7 := ta6.keep e7 (by omega)
    have tb7 := tb6.keep e7 (by omega)
    clear hw7 lci6 ci6 ca6 cb6 ck6 ta6 tb6
    refine (l2w_any o l h _ x.b n _ tb7 (by omega) n0 n1 hb _ gb).mono ?_; rintro e w8 ⟨rfl, f8⟩
    have b8 := b7.trans (f8.mono (by omega))
    have z8 := f8.size
    have ci8 := cell_keep f8 ci7
    have ca8 := cell_keep f8 ca7
    have cb8 := cell_keep f8 cb7
    have ck8 := cell_keep f8 ck7
    have ta8 := ta7.keep f8 (by omega)
    have tb8 := tb7.keep f8 (by omega)
    clear ci7 ca7 cb7 ck7 ta7 tb7
    go_wp2_with fail
    go_ret
    first | exact ⟨ret_bool HR.out.symm, b8⟩ | exact ⟨ret_bool (by rw [HR.out]; simp; omega), b8⟩
end Go.Proofs.Yteekpdlkdpkegaa.L
