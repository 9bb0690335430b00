/- Systems as bytes: both functions, as the exact law asks. -/
import Derived.Test.YtghjcedhoeoiiaaSpecB
import Derived.Test.YtghjcedhoeoiiaaByts
namespace Go.Proofs.Ytghjcedhoeoiiaa.L
open Go.RowKit Go.Proofs.Ytghjcedhoeoiiaa.S
set_option linter.unusedVariables false
set_option linter.unusedSimpArgs false

theorem sysB_len (s : SysC) : (sysB s).length ≤ 536870912 := by
  unfold sysB
  split
  · rename_i hk
    obtain ⟨i1, i2, i3, i4, i5⟩ := limB_facts (sysOk_limB hk)
    have a := flat_le (f := linBytes) (M := 24100) (fun x hx => linBytes_le (sysOk_outs_in hk x hx)) s.outs.length
    have b := flat_le (f := hintBytes) (M := 48100) (fun x hx => hintBytes_le (sysOk_hints_fit hk x hx)) s.hints.length
    have c := flat_le (f := conBytes) (M := 72100) (fun x hx => conBytes_le (sysOk_cons_in hk x hx)) s.cons.length
    rw [List.take_length] at a b c
    have a2 : s.outs.length * 24100 ≤ 40 * 24100 := Nat.mul_le_mul_right _ i3
    have b2 : s.hints.length * 48100 ≤ 3000 * 48100 := Nat.mul_le_mul_right _ (by omega)
    have c2 : s.cons.length * 72100 ≤ 4000 * 72100 := Nat.mul_le_mul_right _ i5
    have d : (headBytes s).length = 16 := rfl
    unfold sysBytes
    rw [List.length_append, List.length_append, List.length_append]
    omega
  · simp

set_option maxRecDepth 100000 in
set_option maxHeartbeats 1600000 in
theorem sysB_spec (o l h vi vo vh vc) (s : SysC) (w : World) (t : SysR o l h w vi vo vh vc s) (hw : h ≤ w.heap.size) (nh : s.hints.length ≤ 1048576) (no : s.outs.length ≤ 1048576) (nc : s.cons.length ≤ 1048576) :
    Calls Try.prog 67 #[.agg #[vi, vo, vh, vc]] w fun e w' => ∃ u, e = .returned (.tuple #[u, .bool (sysOk s)]) ∧ Below w.heap.size w w' ∧ Byts true w.heap.size w'.heap.size w' u (sysB s) := by
  obtain ⟨ao, ko, ah, kh, ac, kc, rfl, rfl, rfl, rfl, lo, bo, lh, bh, lc, bc, fi⟩ := t.shape
  cases hk : sysOk s
  · have HR : Hid (sysB s = []) := Lib.hid (if_neg (by rw [hk]; simp))
    have HK := Lib.hid hk
    clear hk
    go_enter Try.func67, Try.ntmps67
    go_wp2_with fail
    refine name_call fun w1 hw1 => ?_
    have b1 : Below w.heap.size w w1 := by rw [hw1]; (repeat (with_reducible first | exact bR _ _ | assumption | refine bD ?_ | refine bN ?_ _ | refine bA ?_ _ | refine bS ?_ _))
    have z1 : w.heap.size + 1 ≤ w1.heap.size := by rw [hw1]; simp
    have e1 : Below w.heap.size w w1 := by rw [hw1]; (repeat (with_reducible first | exact bR _ _ | assumption | refine bD ?_ | refine bN ?_ _ | refine bA ?_ _ | refine bS ?_ _))
    have cI1 : w1.cell? ⟨w.heap.size, 0, none⟩ = some (.int .i64 s.ins) := by rw [hw1]; first | (simp; done) | go_simp
    have cO1 : w1.cell? ⟨w.heap.size, 1, none⟩ = some (.slice ao s.outs.length ko) := by rw [hw1]; first | (simp; done) | go_simp
    have cH1 : w1.cell? ⟨w.heap.size, 2, none⟩ = some (.slice ah s.hints.length kh) := by rw [hw1]; first | (simp; done) | go_simp
    have cC1 : w1.cell? ⟨w.heap.size, 3, none⟩ = some (.slice ac s.cons.length kc) := by rw [hw1]; first | (simp; done) | go_simp
    have tS1 := t.keep e1 (by omega)
    clear hw1
    refine (sysOk_specb o l h _ _ _ _ s _ tS1 (by omega) nh no nc _ HK.out).mono ?_; rintro e w2 ⟨rfl, f2⟩
    have b2 := b1.trans (f2.mono (by omega))
    have z2 := f2.size
    have cI2 := cell_keep f2 cI1
    have cO2 := cell_keep f2 cO1
    have cH2 := cell_keep f2 cH1
    have cC2 := cell_keep f2 cC1
    have tS2 := tS1.keep f2 (by omega)
    clear cI1 cO1 cH1 cC1 tS1
    go_wp2_with fail
    go_ret2
    exact ⟨_, rfl, b2, by rw [HR.out]; exact Byts.nil _ _ _ _⟩
  · have HR : Hid (sysB s = sysBytes s) := Lib.hid (if_pos hk)
    have HK := Lib.hid hk
    clear hk
    go_enter Try.func67, Try.ntmps67
    go_wp2_with fail
    refine name_call fun w1 hw1 => ?_
    have b1 : Below w.heap.size w w1 := by rw [hw1]; (repeat (with_reducible first | exact bR _ _ | assumption | refine bD ?_ | refine bN ?_ _ | refine bA ?_ _ | refine bS ?_ _))
    have z1 : w.heap.size + 1 ≤ w1.heap.size := by rw [hw1]; simp
    have e1 : Below w.heap.size w w1 := by rw [hw1]; (repeat (with_reducible first | exact bR _ _ | assumption | refine bD ?_ | refine bN ?_ _ | refine bA ?_ _ | refine bS ?_ _))
    have cI1 : w1.cell? ⟨w.heap.size, 0, none⟩ = some (.int .i64 s.ins) := by rw [hw1]; first | (simp; done) | go_simp
    have cO1 : w1.cell? ⟨w.heap.size, 1, none⟩ = some (.slice ao s.outs.length ko) := by rw [hw1]; first | (simp; done) | go_simp
    have cH1 : w1.cell? ⟨w.heap.size, 2, none⟩ = some (.slice ah s.hints.length kh) := by rw [hw1]; first | (simp; done) | go_simp
    have cC1 : w1.cell? ⟨w.heap.size, 3, none⟩ = some (.slice ac s.cons.length kc) := by rw [hw1]; first | (simp; done) | go_simp
    have tS1 := t.keep e1 (by omega)
    clear hw1
    refine (sysOk_specb o l h _ _ _ _ s _ tS1 (by omega) nh no nc _ HK.out).mono ?_; rintro e w2 ⟨rfl, f2⟩
    have b2 := b1.trans (f2.mono (by omega))
    have z2 := f2.size
    have cI2 := cell_keep f2 cI1
    have cO2 := cell_keep f2 cO1
    have cH2 := cell_keep f2 cH1
    have cC2 := cell_keep f2 cC1
    have tS2 := tS1.keep f2 (by omega)
    clear cI1 cO1 cH1 cC1 tS1
    have lcI2 : w.heap.size < w2.heap.size := World.block_lt_of_cell? _ _ cI2
    go_wp2_with fail
    refine name_call fun w3 hw3 => ?_
    have b3 : Below w.heap.size w w3 := by rw [hw3]; (repeat (with_reducible first | exact bR _ _ | assumption | refine bD ?_ | refine bN ?_ _ | refine bA ?_ _ | refine bS ?_ _))
    have z3 : w2.heap.size + 0 ≤ w3.heap.size := by rw [hw3]; simp
    have e3 : Below w2.heap.size w2 w3 := by rw [hw3]; (repeat (with_reducible first | exact bR _ _ | assumption | refine bD ?_ | refine bN ?_ _ | refine bA ?_ _ | refine bS ?_ _))
    have cI3 := cell_keep e3 cI2
    have cO3 := cell_keep e3 cO2
    have cH3 := cell_keep e3 cH2
    have cC3 := cell_keep e3 cC2
    have tS3 := tS2.keep e3 (by omega)
    clear hw3 lcI2 cI2 cO2 cH2 cC2 tS2
    refine (l3bytes_any o l h _ _ _ _ s _ tS3 (by omega) HK.out).mono ?_; rintro e w4 ⟨u1, rfl, f4, q4⟩
    have b4 := b3.trans (f4.mono (by omega))
    have z4 := f4.size
    have cI4 := cell_keep f4 cI3
    have cO4 := cell_keep f4 cO3
    have cH4 := cell_keep f4 cH3
    have cC4 := cell_keep f4 cC3
    have tS4 := tS3.keep f4 (by omega)
    clear cI3 cO3 cH3 cC3 tS3
    have fin := (Byts.own q4).mono (l' := w.heap.size) (h' := w4.heap.size) (by omega) (Nat.le_refl _)
    obtain ⟨g, cg, rfl, lg, bg⟩ := fin.shape
    clear q4
    go_wp2_with fail
    go_ret2
    exact ⟨_, rfl, b4, by rw [HR.out]; exact fin⟩
end Go.Proofs.Ytghjcedhoeoiiaa.L
