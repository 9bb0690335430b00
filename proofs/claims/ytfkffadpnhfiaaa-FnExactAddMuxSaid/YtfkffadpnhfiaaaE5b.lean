/- Exact laws of functions that add to a system (written by tools/lawadd.py): the program's function and its model return the same, write into no argument, and own what they return. -/
import Derived.Test.YtfkffadpnhfiaaaE5m
import Derived.Test.YtfkffadpnhfiaaaAddL
import Derived.Test.YtfkffadpnhfiaaaMAdd
import Derived.Test.YtfkffadpnhfiaaaSame5m
import Derived.Test.YtfkffadpnhfiaaaRgn
import Derived.Test.YtfkffadpnhfiaaaB2
import Derived.Test.YtfkffadpnhfiaaaB3
import Derived.Deep.DeepCutAuto
namespace Go.Proofs.Ytfkffadpnhfiaaa.L
open Go.RowKit Go.Proofs.Ytfkffadpnhfiaaa.S
set_option linter.unusedVariables false
set_option linter.unusedSimpArgs false

set_option maxRecDepth 100000 in
set_option maxHeartbeats 12800000 in
theorem law_FnExactAddMux (viS voS vhS vcS : Value) (sS : SysC) (vC : Value) (tsC : List T) (vA : Value) (tsA : List T) (vB : Value) (tsB : List T) (w : World) (hS : SysR false 0 w.heap.size w viS voS vhS vcS sS) (hC : Terms false 0 w.heap.size w vC tsC) (hA : Terms false 0 w.heap.size w vA tsA) (hB : Terms false 0 w.heap.size w vB tsB) :
    Calls Try.prog 8 #[.agg #[viS, voS, vhS, vcS], .agg #[vC], .agg #[vA], .agg #[vB]] w fun e w' => e = .returned (.bool true) ∧ Below w.heap.size w w' := by
  obtain ⟨aoS, koS, ahS, khS, acS, kcS, rfl, rfl, rfl, rfl, loS, boS, lhS, bhS, lcS, bcS, fiS⟩ := id hS.shape
  obtain ⟨aC, kC, rfl, laC, baC⟩ := id hC.shape
  obtain ⟨aA, kA, rfl, laA, baA⟩ := id hA.shape
  obtain ⟨aB, kB, rfl, laB, baB⟩ := id hB.shape
  by_cases hlS : szS sS ≤ 1048576
  case' neg =>
    go_enter Try.func8, Try.ntmps8
    go_wp2_with fail
    refine name_call fun w1 hw1 => ?_
    have b1 : Below w.heap.size w w1 := by rw [hw1]; (repeat (with_reducible first | exact bR _ _ | assumption | refine bD ?_ | refine bN ?_ _ | refine bA ?_ _ | refine bS ?_ _))
    have z1 : w.heap.size + 4 ≤ w1.heap.size := by rw [hw1]; simp
    have e1 : Below w.heap.size w w1 := by rw [hw1]; (repeat (with_reducible first | exact bR _ _ | assumption | refine bD ?_ | refine bN ?_ _ | refine bA ?_ _ | refine bS ?_ _))
    have cS01 : w1.cell? ⟨w.heap.size, 0, none⟩ = some (.int .i64 sS.ins) := by rw [hw1]; first | (simp; done) | go_simp
    have cS11 : w1.cell? ⟨w.heap.size, 1, none⟩ = some (.slice aoS sS.outs.length koS) := by rw [hw1]; first | (simp; done) | go_simp
    have cS21 : w1.cell? ⟨w.heap.size, 2, none⟩ = some (.slice ahS sS.hints.length khS) := by rw [hw1]; first | (simp; done) | go_simp
    have cS31 : w1.cell? ⟨w.heap.size, 3, none⟩ = some (.slice acS sS.cons.length kcS) := by rw [hw1]; first | (simp; done) | go_simp
    have cC01 : w1.cell? ⟨w.heap.size + 1, 0, none⟩ = some (.slice aC tsC.length kC) := by rw [hw1]; first | (simp; done) | go_simp
    have cA01 : w1.cell? ⟨w.heap.size + 1 + 1, 0, none⟩ = some (.slice aA tsA.length kA) := by rw [hw1]; first | (simp; done) | go_simp
    have cB01 : w1.cell? ⟨w.heap.size + 1 + 1 + 1, 0, none⟩ = some (.slice aB tsB.length kB) := by rw [hw1]; first | (simp; done) | go_simp
    have tS1 := hS.keep e1 (by omega)
    have tC1 := hC.keep e1 (by omega)
    have tA1 := hA.keep e1 (by omega)
    have tB1 := hB.keep e1 (by omega)
    clear hw1
    refine (szSys_no false 0 w.heap.size _ _ _ _ sS 1048576 _ tS1 (by omega) (by omega) (by omega) (by omega)).mono ?_; rintro e w2 ⟨rfl, f2⟩
    have b2 := b1.trans (f2.mono (by omega))
    have z2 := f2.size
    have cS02 := ck f2 cS01
    have cS12 := ck f2 cS11
    have cS22 := ck f2 cS21
    have cS32 := ck f2 cS31
    have cC02 := ck f2 cC01
    have cA02 := ck f2 cA01
    have cB02 := ck f2 cB01
    have tS2 := tS1.keep f2 (by omega)
    have tC2 := tC1.keep f2 (by omega)
    have tA2 := tA1.keep f2 (by omega)
    have tB2 := tB1.keep f2 (by omega)
    clear cS01 cS11 cS21 cS31 cC01 cA01 cB01 tS1 tC1 tA1 tB1
    go_wp2_with fail
    go_ret
    exact ⟨rfl, b2⟩
  have hS0 : szLs sS.outs + szHs sS.hints + szCs sS.cons = szS sS := rfl
  have q0 : 0 ≤ (1048576 : Int) - szLs sS.outs - szHs sS.hints - szCs sS.cons := by omega
  by_cases hlC : szS sS + tsC.length ≤ 1048576
  case' neg =>
    go_enter Try.func8, Try.ntmps8
    go_wp2_with fail
    refine name_call fun w1 hw1 => ?_
    have b1 : Below w.heap.size w w1 := by rw [hw1]; (repeat (with_reducible first | exact bR _ _ | assumption | refine bD ?_ | refine bN ?_ _ | refine bA ?_ _ | refine bS ?_ _))
    have z1 : w.heap.size + 4 ≤ w1.heap.size := by rw [hw1]; simp
    have e1 : Below w.heap.size w w1 := by rw [hw1]; (repeat (with_reducible first | exact bR _ _ | assumption | refine bD ?_ | refine bN ?_ _ | refine bA ?_ _ | refine bS ?_ _))
    have cS01 : w1.cell? ⟨w.heap.size, 0, none⟩ = some (.int .i64 sS.ins) := by rw [hw1]; first | (simp; done) | go_simp
    have cS11 : w1.cell? ⟨w.heap.size, 1, none⟩ = some (.slice aoS sS.outs.length koS) := by rw [hw1]; first | (simp; done) | go_simp
    have cS21 : w1.cell? ⟨w.heap.size, 2, none⟩ = some (.slice ahS sS.hints.length khS) := by rw [hw1]; first | (simp; done) | go_simp
    have cS31 : w1.cell? ⟨w.heap.size, 3, none⟩ = some (.slice acS sS.cons.length kcS) := by rw [hw1]; first | (simp; done) | go_simp
    have cC01 : w1.cell? ⟨w.heap.size + 1, 0, none⟩ = some (.slice aC tsC.length kC) := by rw [hw1]; first | (simp; done) | go_simp
    have cA01 : w1.cell? ⟨w.heap.size + 1 + 1, 0, none⟩ = some (.slice aA tsA.length kA) := by rw [hw1]; first | (simp; done) | go_simp
    have cB01 : w1.cell? ⟨w.heap.size + 1 + 1 + 1, 0, none⟩ = some (.slice aB tsB.length kB) := by rw [hw1]; first | (simp; done) | go_simp
    have tS1 := hS.keep e1 (by omega)
    have tC1 := hC.keep e1 (by omega)
    have tA1 := hA.keep e1 (by omega)
    have tB1 := hB.keep e1 (by omega)
    clear hw1
    have hS0 : szLs sS.outs + szHs sS.hints + szCs sS.cons = szS sS := rfl
    refine (szSys_ok false 0 w.heap.size _ _ _ _ sS 1048576 _ tS1 (by omega) (by omega) (by omega) (by omega)).mono ?_; rintro e w2 ⟨rfl, f2⟩
    have b2 := b1.trans (f2.mono (by omega))
    have z2 := f2.size
    have cS02 := ck f2 cS01
    have cS12 := ck f2 cS11
    have cS22 := ck f2 cS21
    have cS32 := ck f2 cS31
    have cC02 := ck f2 cC01
    have cA02 := ck f2 cA01
    have cB02 := ck f2 cB01
    have tS2 := tS1.keep f2 (by omega)
    have tC2 := tC1.keep f2 (by omega)
    have tA2 := tA1.keep f2 (by omega)
    have tB2 := tB1.keep f2 (by omega)
    clear cS01 cS11 cS21 cS31 cC01 cA01 cB01 tS1 tC1 tA1 tB1
    have lcS02 : w.heap.size < w2.heap.size := blt cS02
    have lcC02 : w.heap.size + 1 < w2.heap.size := blt cC02
    have lcA02 : w.heap.size + 1 + 1 < w2.heap.size := blt cA02
    have lcB02 : w.heap.size + 1 + 1 + 1 < w2.heap.size := blt cB02
    go_wp2_with fail
    refine name_call fun w3 hw3 => ?_
    have b3 : Below w.heap.size w w3 := by rw [hw3]; (repeat (with_reducible first | exact bR _ _ | assumption | refine bD ?_ | refine bN ?_ _ | refine bA ?_ _ | refine bS ?_ _))
    have z3 : w2.heap.size + 0 ≤ w3.heap.size := by rw [hw3]; simp
    have e3 : Below w2.heap.size w2 w3 := by rw [hw3]; (repeat (with_reducible first | exact bR _ _ | assumption | refine bD ?_ | refine bN ?_ _ | refine bA ?_ _ | refine bS ?_ _))
    have cS03 := ck e3 cS02
    have cS13 := ck e3 cS12
    have cS23 := ck e3 cS22
    have cS33 := ck e3 cS32
    have cC03 := ck e3 cC02
    have cA03 := ck e3 cA02
    have cB03 := ck e3 cB02
    have tS3 := tS2.keep e3 (by omega)
    have tC3 := tC2.keep e3 (by omega)
    have tA3 := tA2.keep e3 (by omega)
    have tB3 := tB2.keep e3 (by omega)
    clear hw3 lcS02 lcC02 lcA02 lcB02 cS02 cS12 cS22 cS32 cC02 cA02 cB02 tS2 tC2 tA2 tB2
    refine (szLin_no false 0 w.heap.size _ tsC _ _ tC3 (by omega) (by omega) (by omega) (by omega)).mono ?_; rintro e w4 ⟨rfl, f4⟩
    have b4 := b3.trans (f4.mono (by omega))
    have z4 := f4.size
    have cS04 := ck f4 cS03
    have cS14 := ck f4 cS13
    have cS24 := ck f4 cS23
    have cS34 := ck f4 cS33
    have cC04 := ck f4 cC03
    have cA04 := ck f4 cA03
    have cB04 := ck f4 cB03
    have tS4 := tS3.keep f4 (by omega)
    have tC4 := tC3.keep f4 (by omega)
    have tA4 := tA3.keep f4 (by omega)
    have tB4 := tB3.keep f4 (by omega)
    clear cS03 cS13 cS23 cS33 cC03 cA03 cB03 tS3 tC3 tA3 tB3
    go_wp2_with fail
    go_ret
    exact ⟨rfl, b4⟩
  have q1 : 0 ≤ (1048576 : Int) - szLs sS.outs - szHs sS.hints - szCs sS.cons - tsC.length := by omega
  by_cases hlA : szS sS + tsC.length + tsA.length ≤ 1048576
  case' neg =>
    go_enter Try.func8, Try.ntmps8
    go_wp2_with fail
    refine name_call fun w1 hw1 => ?_
    have b1 : Below w.heap.size w w1 := by rw [hw1]; (repeat (with_reducible first | exact bR _ _ | assumption | refine bD ?_ | refine bN ?_ _ | refine bA ?_ _ | refine bS ?_ _))
    have z1 : w.heap.size + 4 ≤ w1.heap.size := by rw [hw1]; simp
    have e1 : Below w.heap.size w w1 := by rw [hw1]; (repeat (with_reducible first | exact bR _ _ | assumption | refine bD ?_ | refine bN ?_ _ | refine bA ?_ _ | refine bS ?_ _))
    have cS01 : w1.cell? ⟨w.heap.size, 0, none⟩ = some (.int .i64 sS.ins) := by rw [hw1]; first | (simp; done) | go_simp
    have cS11 : w1.cell? ⟨w.heap.size, 1, none⟩ = some (.slice aoS sS.outs.length koS) := by rw [hw1]; first | (simp; done) | go_simp
    have cS21 : w1.cell? ⟨w.heap.size, 2, none⟩ = some (.slice ahS sS.hints.length khS) := by rw [hw1]; first | (simp; done) | go_simp
    have cS31 : w1.cell? ⟨w.heap.size, 3, none⟩ = some (.slice acS sS.cons.length kcS) := by rw [hw1]; first | (simp; done) | go_simp
    have cC01 : w1.cell? ⟨w.heap.size + 1, 0, none⟩ = some (.slice aC tsC.length kC) := by rw [hw1]; first | (simp; done) | go_simp
    have cA01 : w1.cell? ⟨w.heap.size + 1 + 1, 0, none⟩ = some (.slice aA tsA.length kA) := by rw [hw1]; first | (simp; done) | go_simp
    have cB01 : w1.cell? ⟨w.heap.size + 1 + 1 + 1, 0, none⟩ = some (.slice aB tsB.length kB) := by rw [hw1]; first | (simp; done) | go_simp
    have tS1 := hS.keep e1 (by omega)
    have tC1 := hC.keep e1 (by omega)
    have tA1 := hA.keep e1 (by omega)
    have tB1 := hB.keep e1 (by omega)
    clear hw1
    have hS0 : szLs sS.outs + szHs sS.hints + szCs sS.cons = szS sS := rfl
    refine (szSys_ok false 0 w.heap.size _ _ _ _ sS 1048576 _ tS1 (by omega) (by omega) (by omega) (by omega)).mono ?_; rintro e w2 ⟨rfl, f2⟩
    have b2 := b1.trans (f2.mono (by omega))
    have z2 := f2.size
    have cS02 := ck f2 cS01
    have cS12 := ck f2 cS11
    have cS22 := ck f2 cS21
    have cS32 := ck f2 cS31
    have cC02 := ck f2 cC01
    have cA02 := ck f2 cA01
    have cB02 := ck f2 cB01
    have tS2 := tS1.keep f2 (by omega)
    have tC2 := tC1.keep f2 (by omega)
    have tA2 := tA1.keep f2 (by omega)
    have tB2 := tB1.keep f2 (by omega)
    clear cS01 cS11 cS21 cS31 cC01 cA01 cB01 tS1 tC1 tA1 tB1
    have lcS02 : w.heap.size < w2.heap.size := blt cS02
    have lcC02 : w.heap.size + 1 < w2.heap.size := blt cC02
    have lcA02 : w.heap.size + 1 + 1 < w2.heap.size := blt cA02
    have lcB02 : w.heap.size + 1 + 1 + 1 < w2.heap.size := blt cB02
    go_wp2_with fail
    refine name_call fun w3 hw3 => ?_
    have b3 : Below w.heap.size w w3 := by rw [hw3]; (repeat (with_reducible first | exact bR _ _ | assumption | refine bD ?_ | refine bN ?_ _ | refine bA ?_ _ | refine bS ?_ _))
    have z3 : w2.heap.size + 0 ≤ w3.heap.size := by rw [hw3]; simp
    have e3 : Below w2.heap.size w2 w3 := by rw [hw3]; (repeat (with_reducible first | exact bR _ _ | assumption | refine bD ?_ | refine bN ?_ _ | refine bA ?_ _ | refine bS ?_ _))
    have cS03 := ck e3 cS02
    have cS13 := ck e3 cS12
    have cS23 := ck e3 cS22
    have cS33 := ck e3 cS32
    have cC03 := ck e3 cC02
    have cA03 := ck e3 cA02
    have cB03 := ck e3 cB02
    have tS3 := tS2.keep e3 (by omega)
    have tC3 := tC2.keep e3 (by omega)
    have tA3 := tA2.keep e3 (by omega)
    have tB3 := tB2.keep e3 (by omega)
    clear hw3 lcS02 lcC02 lcA02 lcB02 cS02 cS12 cS22 cS32 cC02 cA02 cB02 tS2 tC2 tA2 tB2
    refine (szLin_ok false 0 w.heap.size _ tsC _ _ tC3 (by omega) (by omega) (by omega)).mono ?_; rintro e w4 ⟨rfl, f4⟩
    have b4 := b3.trans (f4.mono (by omega))
    have z4 := f4.size
    have cS04 := ck f4 cS03
    have cS14 := ck f4 cS13
    have cS24 := ck f4 cS23
    have cS34 := ck f4 cS33
    have cC04 := ck f4 cC03
    have cA04 := ck f4 cA03
    have cB04 := ck f4 cB03
    have tS4 := tS3.keep f4 (by omega)
    have tC4 := tC3.keep f4 (by omega)
    have tA4 := tA3.keep f4 (by omega)
    have tB4 := tB3.keep f4 (by omega)
    clear cS03 cS13 cS23 cS33 cC03 cA03 cB03 tS3 tC3 tA3 tB3
    have lcS04 : w.heap.size < w4.heap.size := blt cS04
    have lcC04 : w.heap.size + 1 < w4.heap.size := blt cC04
    have lcA04 : w.heap.size + 1 + 1 < w4.heap.size := blt cA04
    have lcB04 : w.heap.size + 1 + 1 + 1 < w4.heap.size := blt cB04
    go_wp2_with fail
    refine name_call fun w5 hw5 => ?_
    have b5 : Below w.heap.size w w5 := by rw [hw5]; (repeat (with_reducible first | exact bR _ _ | assumption | refine bD ?_ | refine bN ?_ _ | refine bA ?_ _ | refine bS ?_ _))
    have z5 : w4.heap.size + 0 ≤ w5.heap.size := by rw [hw5]; simp
    have e5 : Below w4.heap.size w4 w5 := by rw [hw5]; (repeat (with_reducible first | exact bR _ _ | assumption | refine bD ?_ | refine bN ?_ _ | refine bA ?_ _ | refine bS ?_ _))
    have cS05 := ck e5 cS04
    have cS15 := ck e5 cS14
    have cS25 := ck e5 cS24
    have cS35 := ck e5 cS34
    have cC05 := ck e5 cC04
    have cA05 := ck e5 cA04
    have cB05 := ck e5 cB04
    have tS5 := tS4.keep e5 (by omega)
    have tC5 := tC4.keep e5 (by omega)
    have tA5 := tA4.keep e5 (by omega)
    have tB5 := tB4.keep e5 (by omega)
    clear hw5 lcS04 lcC04 lcA04 lcB04 cS04 cS14 cS24 cS34 cC04 cA04 cB04 tS4 tC4 tA4 tB4
    refine (szLin_no false 0 w.heap.size _ tsA _ _ tA5 (by omega) (by omega) (by omega) (by omega)).mono ?_; rintro e w6 ⟨rfl, f6⟩
    have b6 := b5.trans (f6.mono (by omega))
    have z6 := f6.size
    have cS06 := ck f6 cS05
    have cS16 := ck f6 cS15
    have cS26 := ck f6 cS25
    have cS36 := ck f6 cS35
    have cC06 := ck f6 cC05
    have cA06 := ck f6 cA05
    have cB06 := ck f6 cB05
    have tS6 := tS5.keep f6 (by omega)
    have tC6 := tC5.keep f6 (by omega)
    have tA6 := tA5.keep f6 (by omega)
    have tB6 := tB5.keep f6 (by omega)
    clear cS05 cS15 cS25 cS35 cC05 cA05 cB05 tS5 tC5 tA5 tB5
    go_wp2_with fail
    go_ret
    exact ⟨rfl, b6⟩
  have q2 : 0 ≤ (1048576 : Int) - szLs sS.outs - szHs sS.hints - szCs sS.cons - tsC.length - tsA.length := by omega
  by_cases hlB : szS sS + tsC.length + tsA.length + tsB.length ≤ 1048576
  case' neg =>
    go_enter Try.func8, Try.ntmps8
    go_wp2_with fail
    refine name_call fun w1 hw1 => ?_
    have b1 : Below w.heap.size w w1 := by rw [hw1]; (repeat (with_reducible first | exact bR _ _ | assumption | refine bD ?_ | refine bN ?_ _ | refine bA ?_ _ | refine bS ?_ _))
    have z1 : w.heap.size + 4 ≤ w1.heap.size := by rw [hw1]; simp
    have e1 : Below w.heap.size w w1 := by rw [hw1]; (repeat (with_reducible first | exact bR _ _ | assumption | refine bD ?_ | refine bN ?_ _ | refine bA ?_ _ | refine bS ?_ _))
    have cS01 : w1.cell? ⟨w.heap.size, 0, none⟩ = some (.int .i64 sS.ins) := by rw [hw1]; first | (simp; done) | go_simp
    have cS11 : w1.cell? ⟨w.heap.size, 1, none⟩ = some (.slice aoS sS.outs.length koS) := by rw [hw1]; first | (simp; done) | go_simp
    have cS21 : w1.cell? ⟨w.heap.size, 2, none⟩ = some (.slice ahS sS.hints.length khS) := by rw [hw1]; first | (simp; done) | go_simp
    have cS31 : w1.cell? ⟨w.heap.size, 3, none⟩ = some (.slice acS sS.cons.length kcS) := by rw [hw1]; first | (simp; done) | go_simp
    have cC01 : w1.cell? ⟨w.heap.size + 1, 0, none⟩ = some (.slice aC tsC.length kC) := by rw [hw1]; first | (simp; done) | go_simp
    have cA01 : w1.cell? ⟨w.heap.size + 1 + 1, 0, none⟩ = some (.slice aA tsA.length kA) := by rw [hw1]; first | (simp; done) | go_simp
    have cB01 : w1.cell? ⟨w.heap.size + 1 + 1 + 1, 0, none⟩ = some (.slice aB tsB.length kB) := by rw [hw1]; first | (simp; done) | go_simp
    have tS1 := hS.keep e1 (by omega)
    have tC1 := hC.keep e1 (by omega)
    have tA1 := hA.keep e1 (by omega)
    have tB1 := hB.keep e1 (by omega)
    clear hw1
    have hS0 : szLs sS.outs + szHs sS.hints + szCs sS.cons = szS sS := rfl
    refine (szSys_ok false 0 w.heap.size _ _ _ _ sS 1048576 _ tS1 (by omega) (by omega) (by omega) (by omega)).mono ?_; rintro e w2 ⟨rfl, f2⟩
    have b2 := b1.trans (f2.mono (by omega))
    have z2 := f2.size
    have cS02 := ck f2 cS01
    have cS12 := ck f2 cS11
    have cS22 := ck f2 cS21
    have cS32 := ck f2 cS31
    have cC02 := ck f2 cC01
    have cA02 := ck f2 cA01
    have cB02 := ck f2 cB01
    have tS2 := tS1.keep f2 (by omega)
    have tC2 := tC1.keep f2 (by omega)
    have tA2 := tA1.keep f2 (by omega)
    have tB2 := tB1.keep f2 (by omega)
    clear cS01 cS11 cS21 cS31 cC01 cA01 cB01 tS1 tC1 tA1 tB1
    have lcS02 : w.heap.size < w2.heap.size := blt cS02
    have lcC02 : w.heap.size + 1 < w2.heap.size := blt cC02
    have lcA02 : w.heap.size + 1 + 1 < w2.heap.size := blt cA02
    have lcB02 : w.heap.size + 1 + 1 + 1 < w2.heap.size := blt cB02
    go_wp2_with fail
    refine name_call fun w3 hw3 => ?_
    have b3 : Below w.heap.size w w3 := by rw [hw3]; (repeat (with_reducible first | exact bR _ _ | assumption | refine bD ?_ | refine bN ?_ _ | refine bA ?_ _ | refine bS ?_ _))
    have z3 : w2.heap.size + 0 ≤ w3.heap.size := by rw [hw3]; simp
    have e3 : Below w2.heap.size w2 w3 := by rw [hw3]; (repeat (with_reducible first | exact bR _ _ | assumption | refine bD ?_ | refine bN ?_ _ | refine bA ?_ _ | refine bS ?_ _))
    have cS03 := ck e3 cS02
    have cS13 := ck e3 cS12
    have cS23 := ck e3 cS22
    have cS33 := ck e3 cS32
    have cC03 := ck e3 cC02
    have cA03 := ck e3 cA02
    have cB03 := ck e3 cB02
    have tS3 := tS2.keep e3 (by omega)
    have tC3 := tC2.keep e3 (by omega)
    have tA3 := tA2.keep e3 (by omega)
    have tB3 := tB2.keep e3 (by omega)
    clear hw3 lcS02 lcC02 lcA02 lcB02 cS02 cS12 cS22 cS32 cC02 cA02 cB02 tS2 tC2 tA2 tB2
    refine (szLin_ok false 0 w.heap.size _ tsC _ _ tC3 (by omega) (by omega) (by omega)).mono ?_; rintro e w4 ⟨rfl, f4⟩
    have b4 := b3.trans (f4.mono (by omega))
    have z4 := f4.size
    have cS04 := ck f4 cS03
    have cS14 := ck f4 cS13
    have cS24 := ck f4 cS23
    have cS34 := ck f4 cS33
    have cC04 := ck f4 cC03
    have cA04 := ck f4 cA03
    have cB04 := ck f4 cB03
    have tS4 := tS3.keep f4 (by omega)
    have tC4 := tC3.keep f4 (by omega)
    have tA4 := tA3.keep f4 (by omega)
    have tB4 := tB3.keep f4 (by omega)
    clear cS03 cS13 cS23 cS33 cC03 cA03 cB03 tS3 tC3 tA3 tB3
    have lcS04 : w.heap.size < w4.heap.size := blt cS04
    have lcC04 : w.heap.size + 1 < w4.heap.size := blt cC04
    have lcA04 : w.heap.size + 1 + 1 < w4.heap.size := blt cA04
    have lcB04 : w.heap.size + 1 + 1 + 1 < w4.heap.size := blt cB04
    go_wp2_with fail
    refine name_call fun w5 hw5 => ?_
    have b5 : Below w.heap.size w w5 := by rw [hw5]; (repeat (with_reducible first | exact bR _ _ | assumption | refine bD ?_ | refine bN ?_ _ | refine bA ?_ _ | refine bS ?_ _))
    have z5 : w4.heap.size + 0 ≤ w5.heap.size := by rw [hw5]; simp
    have e5 : Below w4.heap.size w4 w5 := by rw [hw5]; (repeat (with_reducible first | exact bR _ _ | assumption | refine bD ?_ | refine bN ?_ _ | refine bA ?_ _ | refine bS ?_ _))
    have cS05 := ck e5 cS04
    have cS15 := ck e5 cS14
    have cS25 := ck e5 cS24
    have cS35 := ck e5 cS34
    have cC05 := ck e5 cC04
    have cA05 := ck e5 cA04
    have cB05 := ck e5 cB04
    have tS5 := tS4.keep e5 (by omega)
    have tC5 := tC4.keep e5 (by omega)
    have tA5 := tA4.keep e5 (by omega)
    have tB5 := tB4.keep e5 (by omega)
    clear hw5 lcS04 lcC04 lcA04 lcB04 cS04 cS14 cS24 cS34 cC04 cA04 cB04 tS4 tC4 tA4 tB4
    refine (szLin_ok false 0 w.heap.size _ tsA _ _ tA5 (by omega) (by omega) (by omega)).mono ?_; rintro e w6 ⟨rfl, f6⟩
    have b6 := b5.trans (f6.mono (by omega))
    have z6 := f6.size
    have cS06 := ck f6 cS05
    have cS16 := ck f6 cS15
    have cS26 := ck f6 cS25
    have cS36 := ck f6 cS35
    have cC06 := ck f6 cC05
    have cA06 := ck f6 cA05
    have cB06 := ck f6 cB05
    have tS6 := tS5.keep f6 (by omega)
    have tC6 := tC5.keep f6 (by omega)
    have tA6 := tA5.keep f6 (by omega)
    have tB6 := tB5.keep f6 (by omega)
    clear cS05 cS15 cS25 cS35 cC05 cA05 cB05 tS5 tC5 tA5 tB5
    have lcS06 : w.heap.size < w6.heap.size := blt cS06
    have lcC06 : w.heap.size + 1 < w6.heap.size := blt cC06
    have lcA06 : w.heap.size + 1 + 1 < w6.heap.size := blt cA06
    have lcB06 : w.heap.size + 1 + 1 + 1 < w6.heap.size := blt cB06
    go_wp2_with fail
    refine name_call fun w7 hw7 => ?_
    have b7 : Below w.heap.size w w7 := by rw [hw7]; (repeat (with_reducible first | exact bR _ _ | assumption | refine bD ?_ | refine bN ?_ _ | refine bA ?_ _ | refine bS ?_ _))
    have z7 : w6.heap.size + 0 ≤ w7.heap.size := by rw [hw7]; simp
    have e7 : Below w6.heap.size w6 w7 := by rw [hw7]; (repeat (with_reducible first | exact bR _ _ | assumption | refine bD ?_ | refine bN ?_ _ | refine bA ?_ _ | refine bS ?_ _))
    have cS07 := ck e7 cS06
    have cS17 := ck e7 cS16
    have cS27 := ck e7 cS26
    have cS37 := ck e7 cS36
    have cC07 := ck e7 cC06
    have cA07 := ck e7 cA06
    have cB07 := ck e7 cB06
    have tS7 := tS6.keep e7 (by omega)
    have tC7 := tC6.keep e7 (by omega)
    have tA7 := tA6.keep e7 (by omega)
    have tB7 := tB6.keep e7 (by omega)
    clear hw7 lcS06 lcC06 lcA06 lcB06 cS06 cS16 cS26 cS36 cC06 cA06 cB06 tS6 tC6 tA6 tB6
    refine (szLin_no false 0 w.heap.size _ tsB _ _ tB7 (by omega) (by omega) (by omega) (by omega)).mono ?_; rintro e w8 ⟨rfl, f8⟩
    have b8 := b7.trans (f8.mono (by omega))
    have z8 := f8.size
    have cS08 := ck f8 cS07
    have cS18 := ck f8 cS17
    have cS28 := ck f8 cS27
    have cS38 := ck f8 cS37
    have cC08 := ck f8 cC07
    have cA08 := ck f8 cA07
    have cB08 := ck f8 cB07
    have tS8 := tS7.keep f8 (by omega)
    have tC8 := tC7.keep f8 (by omega)
    have tA8 := tA7.keep f8 (by omega)
    have tB8 := tB7.keep f8 (by omega)
    clear cS07 cS17 cS27 cS37 cC07 cA07 cB07 tS7 tC7 tA7 tB7
    go_wp2_with fail
    go_ret
    exact ⟨rfl, b8⟩
  have q3 : 0 ≤ (1048576 : Int) - szLs sS.outs - szHs sS.hints - szCs sS.cons - tsC.length - tsA.length - tsB.length := by omega
  have sm : Small sS := small_of (by omega)
  have hT : totS sS ≤ 2 * szS sS := totS_le sS
  obtain ⟨ok, Ho1⟩ : ∃ ok, Hid (ok = (mayL sS [tsC, tsA, tsB] && sysOk (muxS sS tsC tsA tsB))) := ⟨_, Lib.hid rfl⟩
  obtain ⟨r, Hr1⟩ : ∃ r, Hid (r = if mayL sS [tsC, tsA, tsB] = true then (if sysOk (muxS sS tsC tsA tsB) = true then muxS sS tsC tsA tsB else sS) else sys0) := ⟨_, Lib.hid rfl⟩
  obtain ⟨v, Hv1⟩ : ∃ v, Hid (v = if (mayL sS [tsC, tsA, tsB] && sysOk (muxS sS tsC tsA tsB)) = true then muxZ sS tsB else []) := ⟨_, Lib.hid rfl⟩
  obtain ⟨A1, A2, A3⟩ := addMux_answers sS tsC tsA tsB
  have Ho : Hid (ok = (mayL sS [tsC, tsA, tsB] && bOk (muxB sS ⟨[], [], 0⟩ tsC tsA tsB))) := Lib.hid (Ho1.out.trans A1.symm)
  have Hr : Hid (r = if mayL sS [tsC, tsA, tsB] = true then bSys sS (muxB sS ⟨[], [], 0⟩ tsC tsA tsB) else sys0) := Lib.hid (Hr1.out.trans A2.symm)
  have Hv : Hid (v = if (mayL sS [tsC, tsA, tsB] && bOk (muxB sS ⟨[], [], 0⟩ tsC tsA tsB)) = true then muxBZ sS ⟨[], [], 0⟩ tsB else []) := Lib.hid (Hv1.out.trans A3.symm)
  have hr1 := size_of Hr1.out (show totS (muxS sS tsC tsA tsB) ≤ totS sS + (4 * tsC.length + 4 * tsA.length + 4 * tsB.length + 4) by unfold muxS; rw [totS_mul]; have := mrg_length 2147483646 tsA tsB; omega)
  have hr2 := len_of Hv1.out (show (muxZ sS tsB).length ≤ tsB.length + 1 from mrg_length _ _ _)
  clear A1 A2 A3
  go_enter Try.func8, Try.ntmps8
  go_wp2_with fail
  refine name_call fun w1 hw1 => ?_
  have b1 : Below w.heap.size w w1 := by rw [hw1]; (repeat (with_reducible first | exact bR _ _ | assumption | refine bD ?_ | refine bN ?_ _ | refine bA ?_ _ | refine bS ?_ _))
  have z1 : w.heap.size + 4 ≤ w1.heap.size := by rw [hw1]; simp
  have e1 : Below w.heap.size w w1 := by rw [hw1]; (repeat (with_reducible first | exact bR _ _ | assumption | refine bD ?_ | refine bN ?_ _ | refine bA ?_ _ | refine bS ?_ _))
  have cS01 : w1.cell? ⟨w.heap.size, 0, none⟩ = some (.int .i64 sS.ins) := by rw [hw1]; first | (simp; done) | go_simp
  have cS11 : w1.cell? ⟨w.heap.size, 1, none⟩ = some (.slice aoS sS.outs.length koS) := by rw [hw1]; first | (simp; done) | go_simp
  have cS21 : w1.cell? ⟨w.heap.size, 2, none⟩ = some (.slice ahS sS.hints.length khS) := by rw [hw1]; first | (simp; done) | go_simp
  have cS31 : w1.cell? ⟨w.heap.size, 3, none⟩ = some (.slice acS sS.cons.length kcS) := by rw [hw1]; first | (simp; done) | go_simp
  have cC01 : w1.cell? ⟨w.heap.size + 1, 0, none⟩ = some (.slice aC tsC.length kC) := by rw [hw1]; first | (simp; done) | go_simp
  have cA01 : w1.cell? ⟨w.heap.size + 1 + 1, 0, none⟩ = some (.slice aA tsA.length kA) := by rw [hw1]; first | (simp; done) | go_simp
  have cB01 : w1.cell? ⟨w.heap.size + 1 + 1 + 1, 0, none⟩ = some (.slice aB tsB.length kB) := by rw [hw1]; first | (simp; done) | go_simp
  have tS1 := hS.keep e1 (by omega)
  have tC1 := hC.keep e1 (by omega)
  have tA1 := hA.keep e1 (by omega)
  have tB1 := hB.keep e1 (by omega)
  clear hw1
  refine (szSys_ok false 0 w.heap.size _ _ _ _ sS 1048576 _ tS1 (by omega) (by omega) (by omega) (by omega)).mono ?_; rintro e w2 ⟨rfl, f2⟩
  have b2 := b1.trans (f2.mono (by omega))
  have z2 := f2.size
  have cS02 := ck f2 cS01
  have cS12 := ck f2 cS11
  have cS22 := ck f2 cS21
  have cS32 := ck f2 cS31
  have cC02 := ck f2 cC01
  have cA02 := ck f2 cA01
  have cB02 := ck f2 cB01
  have tS2 := tS1.keep f2 (by omega)
  have tC2 := tC1.keep f2 (by omega)
  have tA2 := tA1.keep f2 (by omega)
  have tB2 := tB1.keep f2 (by omega)
  clear cS01 cS11 cS21 cS31 cC01 cA01 cB01 tS1 tC1 tA1 tB1
  have lcS02 : w.heap.size < w2.heap.size := blt cS02
  have lcC02 : w.heap.size + 1 < w2.heap.size := blt cC02
  have lcA02 : w.heap.size + 1 + 1 < w2.heap.size := blt cA02
  have lcB02 : w.heap.size + 1 + 1 + 1 < w2.heap.size := blt cB02
  go_wp2_with fail
  refine name_call fun w3 hw3 => ?_
  have b3 : Below w.heap.size w w3 := by rw [hw3]; (repeat (with_reducible first | exact bR _ _ | assumption | refine bD ?_ | refine bN ?_ _ | refine bA ?_ _ | refine bS ?_ _))
  have z3 : w2.heap.size + 0 ≤ w3.heap.size := by rw [hw3]; simp
  have e3 : Below w2.heap.size w2 w3 := by rw [hw3]; (repeat (with_reducible first | exact bR _ _ | assumption | refine bD ?_ | refine bN ?_ _ | refine bA ?_ _ | refine bS ?_ _))
  have cS03 := ck e3 cS02
  have cS13 := ck e3 cS12
  have cS23 := ck e3 cS22
  have cS33 := ck e3 cS32
  have cC03 := ck e3 cC02
  have cA03 := ck e3 cA02
  have cB03 := ck e3 cB02
  have tS3 := tS2.keep e3 (by omega)
  have tC3 := tC2.keep e3 (by omega)
  have tA3 := tA2.keep e3 (by omega)
  have tB3 := tB2.keep e3 (by omega)
  clear hw3 lcS02 lcC02 lcA02 lcB02 cS02 cS12 cS22 cS32 cC02 cA02 cB02 tS2 tC2 tA2 tB2
  refine (szLin_ok false 0 w.heap.size _ tsC _ _ tC3 (by omega) (by omega) (by omega)).mono ?_; rintro e w4 ⟨rfl, f4⟩
  have b4 := b3.trans (f4.mono (by omega))
  have z4 := f4.size
  have cS04 := ck f4 cS03
  have cS14 := ck f4 cS13
  have cS24 := ck f4 cS23
  have cS34 := ck f4 cS33
  have cC04 := ck f4 cC03
  have cA04 := ck f4 cA03
  have cB04 := ck f4 cB03
  have tS4 := tS3.keep f4 (by omega)
  have tC4 := tC3.keep f4 (by omega)
  have tA4 := tA3.keep f4 (by omega)
  have tB4 := tB3.keep f4 (by omega)
  clear cS03 cS13 cS23 cS33 cC03 cA03 cB03 tS3 tC3 tA3 tB3
  have lcS04 : w.heap.size < w4.heap.size := blt cS04
  have lcC04 : w.heap.size + 1 < w4.heap.size := blt cC04
  have lcA04 : w.heap.size + 1 + 1 < w4.heap.size := blt cA04
  have lcB04 : w.heap.size + 1 + 1 + 1 < w4.heap.size := blt cB04
  go_wp2_with fail
  refine name_call fun w5 hw5 => ?_
  have b5 : Below w.heap.size w w5 := by rw [hw5]; (repeat (with_reducible first | exact bR _ _ | assumption | refine bD ?_ | refine bN ?_ _ | refine bA ?_ _ | refine bS ?_ _))
  have z5 : w4.heap.size + 0 ≤ w5.heap.size := by rw [hw5]; simp
  have e5 : Below w4.heap.size w4 w5 := by rw [hw5]; (repeat (with_reducible first | exact bR _ _ | assumption | refine bD ?_ | refine bN ?_ _ | refine bA ?_ _ | refine bS ?_ _))
  have cS05 := ck e5 cS04
  have cS15 := ck e5 cS14
  have cS25 := ck e5 cS24
  have cS35 := ck e5 cS34
  have cC05 := ck e5 cC04
  have cA05 := ck e5 cA04
  have cB05 := ck e5 cB04
  have tS5 := tS4.keep e5 (by omega)
  have tC5 := tC4.keep e5 (by omega)
  have tA5 := tA4.keep e5 (by omega)
  have tB5 := tB4.keep e5 (by omega)
  clear hw5 lcS04 lcC04 lcA04 lcB04 cS04 cS14 cS24 cS34 cC04 cA04 cB04 tS4 tC4 tA4 tB4
  refine (szLin_ok false 0 w.heap.size _ tsA _ _ tA5 (by omega) (by omega) (by omega)).mono ?_; rintro e w6 ⟨rfl, f6⟩
  have b6 := b5.trans (f6.mono (by omega))
  have z6 := f6.size
  have cS06 := ck f6 cS05
  have cS16 := ck f6 cS15
  have cS26 := ck f6 cS25
  have cS36 := ck f6 cS35
  have cC06 := ck f6 cC05
  have cA06 := ck f6 cA05
  have cB06 := ck f6 cB05
  have tS6 := tS5.keep f6 (by omega)
  have tC6 := tC5.keep f6 (by omega)
  have tA6 := tA5.keep f6 (by omega)
  have tB6 := tB5.keep f6 (by omega)
  clear cS05 cS15 cS25 cS35 cC05 cA05 cB05 tS5 tC5 tA5 tB5
  have lcS06 : w.heap.size < w6.heap.size := blt cS06
  have lcC06 : w.heap.size + 1 < w6.heap.size := blt cC06
  have lcA06 : w.heap.size + 1 + 1 < w6.heap.size := blt cA06
  have lcB06 : w.heap.size + 1 + 1 + 1 < w6.heap.size := blt cB06
  go_wp2_with fail
  refine name_call fun w7 hw7 => ?_
  have b7 : Below w.heap.size w w7 := by rw [hw7]; (repeat (with_reducible first | exact bR _ _ | assumption | refine bD ?_ | refine bN ?_ _ | refine bA ?_ _ | refine bS ?_ _))
  have z7 : w6.heap.size + 0 ≤ w7.heap.size := by rw [hw7]; simp
  have e7 : Below w6.heap.size w6 w7 := by rw [hw7]; (repeat (with_reducible first | exact bR _ _ | assumption | refine bD ?_ | refine bN ?_ _ | refine bA ?_ _ | refine bS ?_ _))
  have cS07 := ck e7 cS06
  have cS17 := ck e7 cS16
  have cS27 := ck e7 cS26
  have cS37 := ck e7 cS36
  have cC07 := ck e7 cC06
  have cA07 := ck e7 cA06
  have cB07 := ck e7 cB06
  have tS7 := tS6.keep e7 (by omega)
  have tC7 := tC6.keep e7 (by omega)
  have tA7 := tA6.keep e7 (by omega)
  have tB7 := tB6.keep e7 (by omega)
  clear hw7 lcS06 lcC06 lcA06 lcB06 cS06 cS16 cS26 cS36 cC06 cA06 cB06 tS6 tC6 tA6 tB6
  refine (szLin_ok false 0 w.heap.size _ tsB _ _ tB7 (by omega) (by omega) (by omega)).mono ?_; rintro e w8 ⟨rfl, f8⟩
  have b8 := b7.trans (f8.mono (by omega))
  have z8 := f8.size
  have cS08 := ck f8 cS07
  have cS18 := ck f8 cS17
  have cS28 := ck f8 cS27
  have cS38 := ck f8 cS37
  have cC08 := ck f8 cC07
  have cA08 := ck f8 cA07
  have cB08 := ck f8 cB07
  have tS8 := tS7.keep f8 (by omega)
  have tC8 := tC7.keep f8 (by omega)
  have tA8 := tA7.keep f8 (by omega)
  have tB8 := tB7.keep f8 (by omega)
  clear cS07 cS17 cS27 cS37 cC07 cA07 cB07 tS7 tC7 tA7 tB7
  have lcS08 : w.heap.size < w8.heap.size := blt cS08
  have lcC08 : w.heap.size + 1 < w8.heap.size := blt cC08
  have lcA08 : w.heap.size + 1 + 1 < w8.heap.size := blt cA08
  have lcB08 : w.heap.size + 1 + 1 + 1 < w8.heap.size := blt cB08
  go_wp2_with fail
  refine name_wp fun w9 hw9 => ?_
  have b9 : Below w.heap.size w w9 := by rw [hw9]; (repeat (with_reducible first | exact bR _ _ | assumption | refine bD ?_ | refine bN ?_ _ | refine bA ?_ _ | refine bS ?_ _))
  have z9 : w8.heap.size + 0 ≤ w9.heap.size := by rw [hw9]; simp
  have e9 : Below w8.heap.size w8 w9 := by rw [hw9]; (repeat (with_reducible first | exact bR _ _ | assumption | refine bD ?_ | refine bN ?_ _ | refine bA ?_ _ | refine bS ?_ _))
  have cS09 := ck e9 cS08
  have cS19 := ck e9 cS18
  have cS29 := ck e9 cS28
  have cS39 := ck e9 cS38
  have cC09 := ck e9 cC08
  have cA09 := ck e9 cA08
  have cB09 := ck e9 cB08
  have tS9 := tS8.keep e9 (by omega)
  have tC9 := tC8.keep e9 (by omega)
  have tA9 := tA8.keep e9 (by omega)
  have tB9 := tB8.keep e9 (by omega)
  clear hw9 lcS08 lcC08 lcA08 lcB08 cS08 cS18 cS28 cS38 cC08 cA08 cB08 tS8 tC8 tA8 tB8
  have d0W : Below w9.heap.size w9 w9.drew := (Below.refl _ _).drew
  have zrW : w9.drew.heap.size = w9.heap.size := rfl
  have US := tS9.keep d0W (by omega)
  have UC := tC9.keep d0W (by omega)
  have UA := tA9.keep d0W (by omega)
  have UB := tB9.keep d0W (by omega)
  have GS0 : w9.drew.cell? ⟨w.heap.size, 0, none⟩ = some (.int .i64 sS.ins) := cell_keep d0W cS09
  have GS1 : w9.drew.cell? ⟨w.heap.size, 1, none⟩ = some (.slice aoS sS.outs.length koS) := cell_keep d0W cS19
  have GS2 : w9.drew.cell? ⟨w.heap.size, 2, none⟩ = some (.slice ahS sS.hints.length khS) := cell_keep d0W cS29
  have GS3 : w9.drew.cell? ⟨w.heap.size, 3, none⟩ = some (.slice acS sS.cons.length kcS) := cell_keep d0W cS39
  have GC0 : w9.drew.cell? ⟨w.heap.size + 1, 0, none⟩ = some (.slice aC tsC.length kC) := cell_keep d0W cC09
  have GA0 : w9.drew.cell? ⟨w.heap.size + 1 + 1, 0, none⟩ = some (.slice aA tsA.length kA) := cell_keep d0W cA09
  have GB0 : w9.drew.cell? ⟨w.heap.size + 1 + 1 + 1, 0, none⟩ = some (.slice aB tsB.length kB) := cell_keep d0W cB09
  go_cut [10, 11, 12] (fun s10 s11 s12 wx => CutSL w9.drew r v ok s10 s11 s12 wx)
  case first =>
    rename_i J K' hJ hK
    refine wp_region_drawn [10, 11, 12, 46, 47, 48, 49, 50, 51, 52, 53, 54, 55, 56, 57, 58] (fun d u wx => Below w9.drew.heap.size w9.drew wx ∧ (d 0 = true → u 47 = .agg #[.int .i64 sS.ins, .slice aoS sS.outs.length koS, .slice ahS sS.hints.length khS, .slice acS sS.cons.length kcS]) ∧ ArgSys (d 1) (d 8) sS (u 48) wx ∧ (d 2 = true → u 49 = .agg #[.slice aC tsC.length kC]) ∧ ArgLin (d 3) (d 8) tsC (u 50) wx ∧ (d 4 = true → u 51 = .agg #[.slice aA tsA.length kA]) ∧ ArgLin (d 5) (d 8) tsA (u 52) wx ∧ (d 6 = true → u 53 = .agg #[.slice aB tsB.length kB]) ∧ ArgLin (d 7) (d 8) tsB (u 54) wx ∧ ResSL w9.drew r v ok (d 8) (d 9) (d 10) (d 11) (d 12) (d 13) (d 14) (d 15) (d 16) (d 17) (u 55) (u 46) (u 56) (u 57) (u 58) (u 10) (u 11) (u 12) wx) (by kernel_rfl) (by kernel_rfl) (by kernel_rfl) ?_ ?_ ?_
    · intro u; exact ⟨Below.refl _ _, vac rfl, ArgSys.none, vac rfl, ArgLin.none, vac rfl, ArgLin.none, vac rfl, ArgLin.none, ResSL.start⟩
    · refine ⟨?_, ?_, ?_, ?_, ?_, ?_, ?_, ?_, ?_, ?_, ?_, ?_, ?_, ?_, ?_, ?_, ?_, ?_, trivial⟩
      · intro d u wx h0 hd hF
        obtain ⟨hb, f0, f1, f2, f3, f4, f5, f6, f7, fR⟩ := hF
        have sz := hb.size
        refine Wpv.env fun ρ hin hout hcon hfun => ?_
        have E4 : ρ (.tmp 4) = .pointer (some ⟨w.heap.size, 0, none⟩) := (hout 4 (by kernel_rfl)).trans (by kernel_rfl)
        clear hin hout
        have c0 := cell_keep hb GS0
        have c1 := cell_keep hb GS1
        have c2 := cell_keep hb GS2
        have c3 := cell_keep hb GS3
        refine Wpv.value (v := .agg #[.int .i64 sS.ins, .slice aoS sS.outs.length koS, .slice ahS sS.hints.length khS, .slice acS sS.cons.length kcS]) (w' := wx) ?_ ⟨hb, fun _ => rfl, f1, f2, f3, f4, f5, f6, f7, fR⟩
        clear f0 f1 f2 f3 f4 f5 f6 f7 fR
        simp only [execOp]; rw [E4]; go_simp
      · intro d u wx h0 hd hF
        obtain ⟨hb, f0, f1, f2, f3, f4, f5, f6, f7, fR⟩ := hF
        have sz := hb.size
        refine Wpv.env fun ρ hin hout hcon hfun => ?_
        have E47 := hin 47 (by kernel_rfl)
        clear hin hout
        have e := E47.trans (f0 (hd.get (j := 0) (by kernel_rfl)))
        have t := US.keep hb (by omega)
        refine Wpv.enter (f := 13) (args := #[.agg #[.int .i64 sS.ins, .slice aoS sS.outs.length koS, .slice ahS sS.hints.length khS, .slice acS sS.cons.length kcS]]) (w' := wx) (by clear f0 f1 f2 f3 f4 f5 f6 f7 fR t E47; go_simp) (toSys_any _ _ _ _ _ _ _ sS wx t (by omega) (by omega)) ?_
        rintro e' w' ⟨a1, a2, a3, rfl, j1, t1⟩
        exact ⟨_, rfl, ⟨hb.trans (j1.mono sz), f0, ArgSys.new t1, f2, f3.keep j1, f4, f5.keep j1, f6, f7.keep j1, fR.keep j1⟩⟩
      · intro d u wx h0 hd hF
        obtain ⟨hb, f0, f1, f2, f3, f4, f5, f6, f7, fR⟩ := hF
        have sz := hb.size
        refine Wpv.env fun ρ hin hout hcon hfun => ?_
        have E5 : ρ (.tmp 5) = .pointer (some ⟨w.heap.size + 1, 0, none⟩) := (hout 5 (by kernel_rfl)).trans (by kernel_rfl)
        clear hin hout
        have c0 := cell_keep hb GC0
        refine Wpv.value (v := .agg #[.slice aC tsC.length kC]) (w' := wx) ?_ ⟨hb, f0, f1, fun _ => rfl, f3, f4, f5, f6, f7, fR⟩
        clear f0 f1 f2 f3 f4 f5 f6 f7 fR
        simp only [execOp]; rw [E5]; go_simp
      · intro d u wx h0 hd hF
        obtain ⟨hb, f0, f1, f2, f3, f4, f5, f6, f7, fR⟩ := hF
        have sz := hb.size
        refine Wpv.env fun ρ hin hout hcon hfun => ?_
        have E49 := hin 49 (by kernel_rfl)
        clear hin hout
        have e := E49.trans (f2 (hd.get (j := 2) (by kernel_rfl)))
        have t := UC.keep hb (by omega)
        refine Wpv.enter (f := 14) (args := #[.agg #[.slice aC tsC.length kC]]) (w' := wx) (by clear f0 f1 f2 f3 f4 f5 f6 f7 fR t E49; go_simp) (toLin_any _ _ _ _ tsC wx t (by omega) (by omega)) ?_
        rintro e' w' ⟨a1, rfl, j1, t1⟩
        exact ⟨_, rfl, ⟨hb.trans (j1.mono sz), f0, f1.keep j1, f2, ArgLin.new t1, f4, f5.keep j1, f6, f7.keep j1, fR.keep j1⟩⟩
      · intro d u wx h0 hd hF
        obtain ⟨hb, f0, f1, f2, f3, f4, f5, f6, f7, fR⟩ := hF
        have sz := hb.size
        refine Wpv.env fun ρ hin hout hcon hfun => ?_
        have E6 : ρ (.tmp 6) = .pointer (some ⟨w.heap.size + 1 + 1, 0, none⟩) := (hout 6 (by kernel_rfl)).trans (by kernel_rfl)
        clear hin hout
        have c0 := cell_keep hb GA0
        refine Wpv.value (v := .agg #[.slice aA tsA.length kA]) (w' := wx) ?_ ⟨hb, f0, f1, f2, f3, fun _ => rfl, f5, f6, f7, fR⟩
        clear f0 f1 f2 f3 f4 f5 f6 f7 fR
        simp only [execOp]; rw [E6]; go_simp
      · intro d u wx h0 hd hF
        obtain ⟨hb, f0, f1, f2, f3, f4, f5, f6, f7, fR⟩ := hF
        have sz := hb.size
        refine Wpv.env fun ρ hin hout hcon hfun => ?_
        have E51 := hin 51 (by kernel_rfl)
        clear hin hout
        have e := E51.trans (f4 (hd.get (j := 4) (by kernel_rfl)))
        have t := UA.keep hb (by omega)
        refine Wpv.enter (f := 14) (args := #[.agg #[.slice aA tsA.length kA]]) (w' := wx) (by clear f0 f1 f2 f3 f4 f5 f6 f7 fR t E51; go_simp) (toLin_any _ _ _ _ tsA wx t (by omega) (by omega)) ?_
        rintro e' w' ⟨a1, rfl, j1, t1⟩
        exact ⟨_, rfl, ⟨hb.trans (j1.mono sz), f0, f1.keep j1, f2, f3.keep j1, f4, ArgLin.new t1, f6, f7.keep j1, fR.keep j1⟩⟩
      · intro d u wx h0 hd hF
        obtain ⟨hb, f0, f1, f2, f3, f4, f5, f6, f7, fR⟩ := hF
        have sz := hb.size
        refine Wpv.env fun ρ hin hout hcon hfun => ?_
        have E7 : ρ (.tmp 7) = .pointer (some ⟨w.heap.size + 1 + 1 + 1, 0, none⟩) := (hout 7 (by kernel_rfl)).trans (by kernel_rfl)
        clear hin hout
        have c0 := cell_keep hb GB0
        refine Wpv.value (v := .agg #[.slice aB tsB.length kB]) (w' := wx) ?_ ⟨hb, f0, f1, f2, f3, f4, f5, fun _ => rfl, f7, fR⟩
        clear f0 f1 f2 f3 f4 f5 f6 f7 fR
        simp only [execOp]; rw [E7]; go_simp
      · intro d u wx h0 hd hF
        obtain ⟨hb, f0, f1, f2, f3, f4, f5, f6, f7, fR⟩ := hF
        have sz := hb.size
        refine Wpv.env fun ρ hin hout hcon hfun => ?_
        have E53 := hin 53 (by kernel_rfl)
        clear hin hout
        have e := E53.trans (f6 (hd.get (j := 6) (by kernel_rfl)))
        have t := UB.keep hb (by omega)
        refine Wpv.enter (f := 14) (args := #[.agg #[.slice aB tsB.length kB]]) (w' := wx) (by clear f0 f1 f2 f3 f4 f5 f6 f7 fR t E53; go_simp) (toLin_any _ _ _ _ tsB wx t (by omega) (by omega)) ?_
        rintro e' w' ⟨a1, rfl, j1, t1⟩
        exact ⟨_, rfl, ⟨hb.trans (j1.mono sz), f0, f1.keep j1, f2, f3.keep j1, f4, f5.keep j1, f6, ArgLin.new t1, fR.keep j1⟩⟩
      · intro d u wx h0 hd hF
        obtain ⟨hb, f0, f1, f2, f3, f4, f5, f6, f7, fR⟩ := hF
        have sz := hb.size
        refine Wpv.env fun ρ hin hout hcon hfun => ?_
        have E48 := hin 48 (by kernel_rfl)
        have E50 := hin 50 (by kernel_rfl)
        have E52 := hin 52 (by kernel_rfl)
        have E54 := hin 54 (by kernel_rfl)
        clear hin hout
        obtain ⟨x1S, x2S, x3S, e0S, tS⟩ := f1 (hd.get (j := 1) (by kernel_rfl)) h0
        have eS := E48.trans e0S
        obtain ⟨x1C, e0C, tC⟩ := f3 (hd.get (j := 3) (by kernel_rfl)) h0
        have eC := E50.trans e0C
        obtain ⟨x1A, e0A, tA⟩ := f5 (hd.get (j := 5) (by kernel_rfl)) h0
        have eA := E52.trans e0A
        obtain ⟨x1B, e0B, tB⟩ := f7 (hd.get (j := 7) (by kernel_rfl)) h0
        have eB := E54.trans e0B
        rw [h0] at fR
        refine Wpv.enter (f := 33) (args := #[.agg #[.int .i64 sS.ins, x1S, x2S, x3S], .agg #[x1C], .agg #[x1A], .agg #[x1B]]) (w' := wx) (by clear E48 E50 E52 E54 tS tC tA tB e0S e0C e0A e0B f0 f1 f2 f3 f4 f5 f6 f7 fR; go_simp) (addMux_spec _ _ _ _ _ _ _ sS _ _ _ _ tsC _ _ _ _ tsA _ _ _ _ tsB _ tS (Nat.le_refl _) sm tC (Nat.le_refl _) (by omega) tA (Nat.le_refl _) (by omega) tB (Nat.le_refl _) (by omega) _ (Lib.hid rfl) ok r v Ho1 Hr1 Hv1) ?_
        intro e' w' hq
        obtain ⟨uu, hu, j1, hr⟩ := ResSL.main fR hb hq
        exact ⟨uu, hu, ⟨hb.trans (j1.mono sz), f0, ArgSys.past, f2, ArgLin.past, f4, ArgLin.past, f6, ArgLin.past, hr⟩⟩
      · intro d u wx h0 hd hF
        obtain ⟨hb, f0, f1, f2, f3, f4, f5, f6, f7, fR⟩ := hF
        have sz := hb.size
        refine Wpv.env fun ρ hin hout hcon hfun => ?_
        have E55 := hin 55 (by kernel_rfl)
        clear hin hout
        exact Wpv.value (v := u 55) (by simp only [execOp]; rw [E55]; rfl) ⟨hb, f0, f1, f2, f3, f4, f5, f6, f7, (ResSL.moveD (hd.get (j := 8) (by kernel_rfl)) fR)⟩
      · intro d u wx h0 hd hF
        obtain ⟨hb, f0, f1, f2, f3, f4, f5, f6, f7, fR⟩ := hF
        have sz := hb.size
        refine Wpv.env fun ρ hin hout hcon hfun => ?_
        have E46 := hin 46 (by kernel_rfl)
        clear hin hout
        have hm : d 9 = true := hd.get (j := 9) (by kernel_rfl)
        obtain ⟨x, y, b, e⟩ := ResSL.tupD hm fR
        have e1 := E46.trans e
        refine Wpv.value (v := x) (w' := wx) (by clear e E46 f0 f1 f2 f3 f4 f5 f6 f7 fR; go_simp) ⟨hb, f0, f1, f2, f3, f4, f5, f6, f7, (ResSL.ex0D hm e fR)⟩
      · intro d u wx h0 hd hF
        obtain ⟨hb, f0, f1, f2, f3, f4, f5, f6, f7, fR⟩ := hF
        have sz := hb.size
        refine Wpv.env fun ρ hin hout hcon hfun => ?_
        have E46 := hin 46 (by kernel_rfl)
        clear hin hout
        have hm : d 9 = true := hd.get (j := 9) (by kernel_rfl)
        obtain ⟨x, y, b, e⟩ := ResSL.tupD hm fR
        have e1 := E46.trans e
        refine Wpv.value (v := y) (w' := wx) (by clear e E46 f0 f1 f2 f3 f4 f5 f6 f7 fR; go_simp) ⟨hb, f0, f1, f2, f3, f4, f5, f6, f7, (ResSL.ex1D hm e fR)⟩
      · intro d u wx h0 hd hF
        obtain ⟨hb, f0, f1, f2, f3, f4, f5, f6, f7, fR⟩ := hF
        have sz := hb.size
        refine Wpv.env fun ρ hin hout hcon hfun => ?_
        have E46 := hin 46 (by kernel_rfl)
        clear hin hout
        have hm : d 9 = true := hd.get (j := 9) (by kernel_rfl)
        obtain ⟨x, y, b, e⟩ := ResSL.tupD hm fR
        have e1 := E46.trans e
        refine Wpv.value (v := b) (w' := wx) (by clear e E46 f0 f1 f2 f3 f4 f5 f6 f7 fR; go_simp) ⟨hb, f0, f1, f2, f3, f4, f5, f6, f7, (ResSL.ex2D hm e fR)⟩
      · intro d u wx h0 hd hF
        obtain ⟨hb, f0, f1, f2, f3, f4, f5, f6, f7, fR⟩ := hF
        have sz := hb.size
        refine Wpv.env fun ρ hin hout hcon hfun => ?_
        clear hin hout
        rw [h0] at fR
        have j1 : Below wx.heap.size wx (wx.alloc (.cells #[.int .i64 0, .slice none 0 0, .slice none 0 0, .slice none 0 0] 36)) := balloc (Nat.le_refl _) (Below.refl _ _) _
        refine Wpv.value (v := .pointer (some ⟨wx.heap.size, 0, none⟩)) (w' := wx.alloc (.cells #[.int .i64 0, .slice none 0 0, .slice none 0 0, .slice none 0 0] 36)) (by clear f0 f1 f2 f3 f4 f5 f6 f7 fR; go_simp) ⟨hb.trans (j1.mono sz), f0, f1.keep j1, f2, f3.keep j1, f4, f5.keep j1, f6, f7.keep j1, fR.boxA hb⟩
      · intro d u wx h0 hd hF
        obtain ⟨hb, f0, f1, f2, f3, f4, f5, f6, f7, fR⟩ := hF
        have sz := hb.size
        refine Wpv.env fun ρ hin hout hcon hfun => ?_
        clear hin hout
        rw [h0] at fR
        have j1 : Below wx.heap.size wx (wx.alloc (.cells #[.slice none 0 0] 39)) := balloc (Nat.le_refl _) (Below.refl _ _) _
        refine Wpv.value (v := .pointer (some ⟨wx.heap.size, 0, none⟩)) (w' := wx.alloc (.cells #[.slice none 0 0] 39)) (by clear f0 f1 f2 f3 f4 f5 f6 f7 fR; go_simp) ⟨hb.trans (j1.mono sz), f0, f1.keep j1, f2, f3.keep j1, f4, f5.keep j1, f6, f7.keep j1, fR.boxB hb⟩
      · intro d u wx h0 hd hF
        obtain ⟨hb, f0, f1, f2, f3, f4, f5, f6, f7, fR⟩ := hF
        have sz := hb.size
        refine Wpv.env fun ρ hin hout hcon hfun => ?_
        have E10 := hin 10 (by kernel_rfl)
        have E56 := hin 56 (by kernel_rfl)
        clear hin hout
        have m : d 8 = true := (ResSL.upD (Or.inl (hd.get (j := 10) (by kernel_rfl))) fR)
        obtain ⟨gg, n0, a1, n1, k1, a2, n2, k2, a3, n3, k3, z0, z1, z2, z3, e1, e2, fr, bx⟩ := ResSL.preAD (hd.get (j := 10) (by kernel_rfl)) (hd.get (j := 13) (by kernel_rfl)) fR
        obtain ⟨c0, c1, c2, c3⟩ := id bx
        obtain ⟨r0, r1, r2, r3⟩ := id fr
        obtain ⟨lg, fR'⟩ := ResSL.setAD (hd.get (j := 10) (by kernel_rfl)) (hd.get (j := 13) (by kernel_rfl)) e1 e2 fR
        have y1 := E10.trans e1
        have y2 := E56.trans e2
        refine Wpv.skip (w' := set4 wx gg (.int .i64 n0) (.slice a1 n1 k1) (.slice a2 n2 k2) (.slice a3 n3 k3)) (by unfold set4; clear fR' e1 e2 E10 E56 bx fr f0 f1 f2 f3 f4 f5 f6 f7 fR; go_simp) ?_
        exact ⟨set4_below hb lg _ _ _ _, f0, ArgSys.pastD m, f2, ArgLin.pastD m, f4, ArgLin.pastD m, f6, ArgLin.pastD m, fR'⟩
      · intro d u wx h0 hd hF
        obtain ⟨hb, f0, f1, f2, f3, f4, f5, f6, f7, fR⟩ := hF
        have sz := hb.size
        refine Wpv.env fun ρ hin hout hcon hfun => ?_
        have E11 := hin 11 (by kernel_rfl)
        have E57 := hin 57 (by kernel_rfl)
        clear hin hout
        have m : d 8 = true := (ResSL.upD (Or.inr (hd.get (j := 11) (by kernel_rfl))) fR)
        obtain ⟨gg, a1, n1, k1, z0, e1, e2, r0, c0⟩ := ResSL.preBD (hd.get (j := 11) (by kernel_rfl)) (hd.get (j := 14) (by kernel_rfl)) fR
        obtain ⟨lg, fR'⟩ := ResSL.setBD (hd.get (j := 11) (by kernel_rfl)) (hd.get (j := 14) (by kernel_rfl)) e1 e2 fR
        have y1 := E11.trans e1
        have y2 := E57.trans e2
        refine Wpv.skip (w' := wx.setCell ⟨gg, 0, none⟩ (.slice a1 n1 k1)) (by clear fR' e1 e2 E11 E57 f0 f1 f2 f3 f4 f5 f6 f7 fR; go_simp) ?_
        exact ⟨bset lg hb _, f0, ArgSys.pastD m, f2, ArgLin.pastD m, f4, ArgLin.pastD m, f6, ArgLin.pastD m, fR'⟩
      · intro d u wx h0 hd hF
        obtain ⟨hb, f0, f1, f2, f3, f4, f5, f6, f7, fR⟩ := hF
        have sz := hb.size
        refine Wpv.env fun ρ hin hout hcon hfun => ?_
        have E58 := hin 58 (by kernel_rfl)
        clear hin hout
        exact Wpv.value (v := u 58) (by simp only [execOp]; rw [E58]; rfl) ⟨hb, f0, f1, f2, f3, f4, f5, f6, f7, (ResSL.finD (hd.get (j := 12) (by kernel_rfl)) fR)⟩
    · intro d u wx hall hF
      obtain ⟨hb, f0, f1, f2, f3, f4, f5, f6, f7, fR⟩ := hF
      have fC := ResSL.cutD fR hb (hall 8 (by decide)) (hall 13 (by decide)) (hall 14 (by decide)) (hall 15 (by decide)) (hall 16 (by decide)) (hall 17 (by decide))
      clear f0 f1 f2 f3 f4 f5 f6 f7 fR
      refine hK _ _ (Met.intro (hJ _ _ ?_))
      simp only [setF, List.foldl_cons, List.foldl_nil, Act.put, List.setIfInBounds_toArray, List.set_cons_zero, List.set_cons_succ]
      repeat apply Exists.intro
      exact ⟨fC, rfl⟩
  obtain ⟨gAW, gBW, ui, uo, uh, uc, uv, rfl, rfl, rfl, hgAW, hgBW, ⟨b0, b1, b2, b3⟩, b4, tW, tV, bW⟩ := hcut
  obtain ⟨aoW, koW, ahW, khW, acW, kcW, rfl, rfl, rfl, rfl, loW, boW, lhW, bhW, lcW, bcW, fiW⟩ := id tW.shape
  obtain ⟨aWV, kWV, rfl, laWV, baWV⟩ := id tV.shape
  obtain ⟨w10, hw10⟩ : ∃ x, x = wc := ⟨_, rfl⟩
  subst hw10
  have f10 : Below w9.heap.size w9 w10 := d0W.trans bW
  have b10 := b9.trans (f10.mono (by omega))
  have z10 := f10.size
  have cS010 := ck f10 cS09
  have cS110 := ck f10 cS19
  have cS210 := ck f10 cS29
  have cS310 := ck f10 cS39
  have cC010 := ck f10 cC09
  have cA010 := ck f10 cA09
  have cB010 := ck f10 cB09
  have tS10 := tS9.keep f10 (by omega)
  have tC10 := tC9.keep f10 (by omega)
  have tA10 := tA9.keep f10 (by omega)
  have tB10 := tB9.keep f10 (by omega)
  clear cS09 cS19 cS29 cS39 cC09 cA09 cB09 tS9 tC9 tA9 tB9 US UC UA UB GS0 GS1 GS2 GS3 GC0 GA0 GB0
  have b0W := b0; clear b0
  have b1W := b1; clear b1
  have b2W := b2; clear b2
  have b3W := b3; clear b3
  have lgAW : gAW < w10.heap.size := World.block_lt_of_cell? _ _ b0W
  have lgBW : gBW < w10.heap.size := World.block_lt_of_cell? _ _ b4
  have b4W := b4; clear b4
  have tW10 := tW; clear tW
  have tWV10 := tV; clear tV
  have lcS010 : w.heap.size < w10.heap.size := blt cS010
  have lcC010 : w.heap.size + 1 < w10.heap.size := blt cC010
  have lcA010 : w.heap.size + 1 + 1 < w10.heap.size := blt cA010
  have lcB010 : w.heap.size + 1 + 1 + 1 < w10.heap.size := blt cB010
  have lb0W : gAW < w10.heap.size := blt b0W
  have lb4W : gBW < w10.heap.size := blt b4W
  go_wp2_with fail
  refine name_call fun w11 hw11 => ?_
  have b11 : Below w.heap.size w w11 := by rw [hw11]; (repeat (with_reducible first | exact bR _ _ | assumption | refine bD ?_ | refine bN ?_ _ | refine bA ?_ _ | refine bS ?_ _))
  have z11 : w10.heap.size + 0 ≤ w11.heap.size := by rw [hw11]; simp
  have e11 : Below w10.heap.size w10 w11 := by rw [hw11]; (repeat (with_reducible first | exact bR _ _ | assumption | refine bD ?_ | refine bN ?_ _ | refine bA ?_ _ | refine bS ?_ _))
  have cS011 := ck e11 cS010
  have cS111 := ck e11 cS110
  have cS211 := ck e11 cS210
  have cS311 := ck e11 cS310
  have cC011 := ck e11 cC010
  have cA011 := ck e11 cA010
  have cB011 := ck e11 cB010
  have cW011 := ck e11 b0W
  have cW111 := ck e11 b1W
  have cW211 := ck e11 b2W
  have cW311 := ck e11 b3W
  have cWV011 := ck e11 b4W
  have tS11 := tS10.keep e11 (by omega)
  have tC11 := tC10.keep e11 (by omega)
  have tA11 := tA10.keep e11 (by omega)
  have tB11 := tB10.keep e11 (by omega)
  have tW11 := tW10.keep e11 (by omega)
  have tWV11 := tWV10.keep e11 (by omega)
  clear hw11 lcS010 lcC010 lcA010 lcB010 lb0W lb4W cS010 cS110 cS210 cS310 cC010 cA010 cB010 b0W b1W b2W b3W b4W tS10 tC10 tA10 tB10 tW10 tWV10
  refine (toSys_any _ _ _ _ _ _ _ sS _ tS11 (by omega) (by omega)).mono ?_; rintro e w12 ⟨uoxS, uhxS, ucxS, rfl, f12, q12⟩
  have b12 := b11.trans (f12.mono (by omega))
  have z12 := f12.size
  have cS012 := ck f12 cS011
  have cS112 := ck f12 cS111
  have cS212 := ck f12 cS211
  have cS312 := ck f12 cS311
  have cC012 := ck f12 cC011
  have cA012 := ck f12 cA011
  have cB012 := ck f12 cB011
  have cW012 := ck f12 cW011
  have cW112 := ck f12 cW111
  have cW212 := ck f12 cW211
  have cW312 := ck f12 cW311
  have cWV012 := ck f12 cWV011
  have tS12 := tS11.keep f12 (by omega)
  have tC12 := tC11.keep f12 (by omega)
  have tA12 := tA11.keep f12 (by omega)
  have tB12 := tB11.keep f12 (by omega)
  have tW12 := tW11.keep f12 (by omega)
  have tWV12 := tWV11.keep f12 (by omega)
  clear cS011 cS111 cS211 cS311 cC011 cA011 cB011 cW011 cW111 cW211 cW311 cWV011 tS11 tC11 tA11 tB11 tW11 tWV11
  obtain ⟨aoxS, koxS, ahxS, khxS, acxS, kcxS, -, rfl, rfl, rfl, loxS, boxS, lhxS, bhxS, lcxS, bcxS, -⟩ := id q12.shape
  have lcS012 : w.heap.size < w12.heap.size := blt cS012
  have lcC012 : w.heap.size + 1 < w12.heap.size := blt cC012
  have lcA012 : w.heap.size + 1 + 1 < w12.heap.size := blt cA012
  have lcB012 : w.heap.size + 1 + 1 + 1 < w12.heap.size := blt cB012
  have lcW012 : gAW < w12.heap.size := blt cW012
  have lcWV012 : gBW < w12.heap.size := blt cWV012
  go_wp2_with fail
  refine name_call fun w13 hw13 => ?_
  have b13 : Below w.heap.size w w13 := by rw [hw13]; (repeat (with_reducible first | exact bR _ _ | assumption | refine bD ?_ | refine bN ?_ _ | refine bA ?_ _ | refine bS ?_ _))
  have z13 : w12.heap.size + 1 ≤ w13.heap.size := by rw [hw13]; simp
  have e13 : Below w12.heap.size w12 w13 := by rw [hw13]; (repeat (with_reducible first | exact bR _ _ | assumption | refine bD ?_ | refine bN ?_ _ | refine bA ?_ _ | refine bS ?_ _))
  have cS013 := ck e13 cS012
  have cS113 := ck e13 cS112
  have cS213 := ck e13 cS212
  have cS313 := ck e13 cS312
  have cC013 := ck e13 cC012
  have cA013 := ck e13 cA012
  have cB013 := ck e13 cB012
  have cW013 := ck e13 cW012
  have cW113 := ck e13 cW112
  have cW213 := ck e13 cW212
  have cW313 := ck e13 cW312
  have cWV013 := ck e13 cWV012
  have cxS013 : w13.cell? ⟨w12.heap.size, 0, none⟩ = some (.int .i64 sS.ins) := by rw [hw13]; first | (simp; done) | go_simp
  have cxS113 : w13.cell? ⟨w12.heap.size, 1, none⟩ = some (.slice aoxS sS.outs.length koxS) := by rw [hw13]; first | (simp; done) | go_simp
  have cxS213 : w13.cell? ⟨w12.heap.size, 2, none⟩ = some (.slice ahxS sS.hints.length khxS) := by rw [hw13]; first | (simp; done) | go_simp
  have cxS313 : w13.cell? ⟨w12.heap.size, 3, none⟩ = some (.slice acxS sS.cons.length kcxS) := by rw [hw13]; first | (simp; done) | go_simp
  have tS13 := tS12.keep e13 (by omega)
  have tC13 := tC12.keep e13 (by omega)
  have tA13 := tA12.keep e13 (by omega)
  have tB13 := tB12.keep e13 (by omega)
  have tW13 := tW12.keep e13 (by omega)
  have tWV13 := tWV12.keep e13 (by omega)
  have txS13 := q12.keep e13 (by omega)
  clear hw13 lcS012 lcC012 lcA012 lcB012 lcW012 lcWV012 cS012 cS112 cS212 cS312 cC012 cA012 cB012 cW012 cW112 cW212 cW312 cWV012 tS12 tC12 tA12 tB12 tW12 tWV12
  refine (toLin_any _ _ _ _ tsC _ tC13 (by omega) (by omega)).mono ?_; rintro e w14 ⟨uxC, rfl, f14, q14⟩
  have b14 := b13.trans (f14.mono (by omega))
  have z14 := f14.size
  have cS014 := ck f14 cS013
  have cS114 := ck f14 cS113
  have cS214 := ck f14 cS213
  have cS314 := ck f14 cS313
  have cC014 := ck f14 cC013
  have cA014 := ck f14 cA013
  have cB014 := ck f14 cB013
  have cW014 := ck f14 cW013
  have cW114 := ck f14 cW113
  have cW214 := ck f14 cW213
  have cW314 := ck f14 cW313
  have cWV014 := ck f14 cWV013
  have cxS014 := ck f14 cxS013
  have cxS114 := ck f14 cxS113
  have cxS214 := ck f14 cxS213
  have cxS314 := ck f14 cxS313
  have tS14 := tS13.keep f14 (by omega)
  have tC14 := tC13.keep f14 (by omega)
  have tA14 := tA13.keep f14 (by omega)
  have tB14 := tB13.keep f14 (by omega)
  have tW14 := tW13.keep f14 (by omega)
  have tWV14 := tWV13.keep f14 (by omega)
  have txS14 := txS13.keep f14 (by omega)
  clear cS013 cS113 cS213 cS313 cC013 cA013 cB013 cW013 cW113 cW213 cW313 cWV013 cxS013 cxS113 cxS213 cxS313 tS13 tC13 tA13 tB13 tW13 tWV13 txS13
  obtain ⟨axC, kxC, rfl, laxC, baxC⟩ := id q14.shape
  have lcS014 : w.heap.size < w14.heap.size := blt cS014
  have lcC014 : w.heap.size + 1 < w14.heap.size := blt cC014
  have lcA014 : w.heap.size + 1 + 1 < w14.heap.size := blt cA014
  have lcB014 : w.heap.size + 1 + 1 + 1 < w14.heap.size := blt cB014
  have lcW014 : gAW < w14.heap.size := blt cW014
  have lcWV014 : gBW < w14.heap.size := blt cWV014
  have lcxS014 : w12.heap.size < w14.heap.size := blt cxS014
  go_wp2_with fail
  refine name_call fun w15 hw15 => ?_
  have b15 : Below w.heap.size w w15 := by rw [hw15]; (repeat (with_reducible first | exact bR _ _ | assumption | refine bD ?_ | refine bN ?_ _ | refine bA ?_ _ | refine bS ?_ _))
  have z15 : w14.heap.size + 1 ≤ w15.heap.size := by rw [hw15]; simp
  have e15 : Below w14.heap.size w14 w15 := by rw [hw15]; (repeat (with_reducible first | exact bR _ _ | assumption | refine bD ?_ | refine bN ?_ _ | refine bA ?_ _ | refine bS ?_ _))
  have cS015 := ck e15 cS014
  have cS115 := ck e15 cS114
  have cS215 := ck e15 cS214
  have cS315 := ck e15 cS314
  have cC015 := ck e15 cC014
  have cA015 := ck e15 cA014
  have cB015 := ck e15 cB014
  have cW015 := ck e15 cW014
  have cW115 := ck e15 cW114
  have cW215 := ck e15 cW214
  have cW315 := ck e15 cW314
  have cWV015 := ck e15 cWV014
  have cxS015 := ck e15 cxS014
  have cxS115 := ck e15 cxS114
  have cxS215 := ck e15 cxS214
  have cxS315 := ck e15 cxS314
  have cxC015 : w15.cell? ⟨w14.heap.size, 0, none⟩ = some (.slice axC tsC.length kxC) := by rw [hw15]; first | (simp; done) | go_simp
  have tS15 := tS14.keep e15 (by omega)
  have tC15 := tC14.keep e15 (by omega)
  have tA15 := tA14.keep e15 (by omega)
  have tB15 := tB14.keep e15 (by omega)
  have tW15 := tW14.keep e15 (by omega)
  have tWV15 := tWV14.keep e15 (by omega)
  have txS15 := txS14.keep e15 (by omega)
  have txC15 := q14.keep e15 (by omega)
  clear hw15 lcS014 lcC014 lcA014 lcB014 lcW014 lcWV014 lcxS014 cS014 cS114 cS214 cS314 cC014 cA014 cB014 cW014 cW114 cW214 cW314 cWV014 cxS014 cxS114 cxS214 cxS314 tS14 tC14 tA14 tB14 tW14 tWV14 txS14
  refine (toLin_any _ _ _ _ tsA _ tA15 (by omega) (by omega)).mono ?_; rintro e w16 ⟨uxA, rfl, f16, q16⟩
  have b16 := b15.trans (f16.mono (by omega))
  have z16 := f16.size
  have cS016 := ck f16 cS015
  have cS116 := ck f16 cS115
  have cS216 := ck f16 cS215
  have cS316 := ck f16 cS315
  have cC016 := ck f16 cC015
  have cA016 := ck f16 cA015
  have cB016 := ck f16 cB015
  have cW016 := ck f16 cW015
  have cW116 := ck f16 cW115
  have cW216 := ck f16 cW215
  have cW316 := ck f16 cW315
  have cWV016 := ck f16 cWV015
  have cxS016 := ck f16 cxS015
  have cxS116 := ck f16 cxS115
  have cxS216 := ck f16 cxS215
  have cxS316 := ck f16 cxS315
  have cxC016 := ck f16 cxC015
  have tS16 := tS15.keep f16 (by omega)
  have tC16 := tC15.keep f16 (by omega)
  have tA16 := tA15.keep f16 (by omega)
  have tB16 := tB15.keep f16 (by omega)
  have tW16 := tW15.keep f16 (by omega)
  have tWV16 := tWV15.keep f16 (by omega)
  have txS16 := txS15.keep f16 (by omega)
  have txC16 := txC15.keep f16 (by omega)
  clear cS015 cS115 cS215 cS315 cC015 cA015 cB015 cW015 cW115 cW215 cW315 cWV015 cxS015 cxS115 cxS215 cxS315 cxC015 tS15 tC15 tA15 tB15 tW15 tWV15 txS15 txC15
  obtain ⟨axA, kxA, rfl, laxA, baxA⟩ := id q16.shape
  have lcS016 : w.heap.size < w16.heap.size := blt cS016
  have lcC016 : w.heap.size + 1 < w16.heap.size := blt cC016
  have lcA016 : w.heap.size + 1 + 1 < w16.heap.size := blt cA016
  have lcB016 : w.heap.size + 1 + 1 + 1 < w16.heap.size := blt cB016
  have lcW016 : gAW < w16.heap.size := blt cW016
  have lcWV016 : gBW < w16.heap.size := blt cWV016
  have lcxS016 : w12.heap.size < w16.heap.size := blt cxS016
  have lcxC016 : w14.heap.size < w16.heap.size := blt cxC016
  go_wp2_with fail
  refine name_call fun w17 hw17 => ?_
  have b17 : Below w.heap.size w w17 := by rw [hw17]; (repeat (with_reducible first | exact bR _ _ | assumption | refine bD ?_ | refine bN ?_ _ | refine bA ?_ _ | refine bS ?_ _))
  have z17 : w16.heap.size + 1 ≤ w17.heap.size := by rw [hw17]; simp
  have e17 : Below w16.heap.size w16 w17 := by rw [hw17]; (repeat (with_reducible first | exact bR _ _ | assumption | refine bD ?_ | refine bN ?_ _ | refine bA ?_ _ | refine bS ?_ _))
  have cS017 := ck e17 cS016
  have cS117 := ck e17 cS116
  have cS217 := ck e17 cS216
  have cS317 := ck e17 cS316
  have cC017 := ck e17 cC016
  have cA017 := ck e17 cA016
  have cB017 := ck e17 cB016
  have cW017 := ck e17 cW016
  have cW117 := ck e17 cW116
  have cW217 := ck e17 cW216
  have cW317 := ck e17 cW316
  have cWV017 := ck e17 cWV016
  have cxS017 := ck e17 cxS016
  have cxS117 := ck e17 cxS116
  have cxS217 := ck e17 cxS216
  have cxS317 := ck e17 cxS316
  have cxC017 := ck e17 cxC016
  have cxA017 : w17.cell? ⟨w16.heap.size, 0, none⟩ = some (.slice axA tsA.length kxA) := by rw [hw17]; first | (simp; done) | go_simp
  have tS17 := tS16.keep e17 (by omega)
  have tC17 := tC16.keep e17 (by omega)
  have tA17 := tA16.keep e17 (by omega)
  have tB17 := tB16.keep e17 (by omega)
  have tW17 := tW16.keep e17 (by omega)
  have tWV17 := tWV16.keep e17 (by omega)
  have txS17 := txS16.keep e17 (by omega)
  have txC17 := txC16.keep e17 (by omega)
  have txA17 := q16.keep e17 (by omega)
  clear hw17 lcS016 lcC016 lcA016 lcB016 lcW016 lcWV016 lcxS016 lcxC016 cS016 cS116 cS216 cS316 cC016 cA016 cB016 cW016 cW116 cW216 cW316 cWV016 cxS016 cxS116 cxS216 cxS316 cxC016 tS16 tC16 tA16 tB16 tW16 tWV16 txS16 txC16
  refine (toLin_any _ _ _ _ tsB _ tB17 (by omega) (by omega)).mono ?_; rintro e w18 ⟨uxB, rfl, f18, q18⟩
  have b18 := b17.trans (f18.mono (by omega))
  have z18 := f18.size
  have cS018 := ck f18 cS017
  have cS118 := ck f18 cS117
  have cS218 := ck f18 cS217
  have cS318 := ck f18 cS317
  have cC018 := ck f18 cC017
  have cA018 := ck f18 cA017
  have cB018 := ck f18 cB017
  have cW018 := ck f18 cW017
  have cW118 := ck f18 cW117
  have cW218 := ck f18 cW217
  have cW318 := ck f18 cW317
  have cWV018 := ck f18 cWV017
  have cxS018 := ck f18 cxS017
  have cxS118 := ck f18 cxS117
  have cxS218 := ck f18 cxS217
  have cxS318 := ck f18 cxS317
  have cxC018 := ck f18 cxC017
  have cxA018 := ck f18 cxA017
  have tS18 := tS17.keep f18 (by omega)
  have tC18 := tC17.keep f18 (by omega)
  have tA18 := tA17.keep f18 (by omega)
  have tB18 := tB17.keep f18 (by omega)
  have tW18 := tW17.keep f18 (by omega)
  have tWV18 := tWV17.keep f18 (by omega)
  have txS18 := txS17.keep f18 (by omega)
  have txC18 := txC17.keep f18 (by omega)
  have txA18 := txA17.keep f18 (by omega)
  clear cS017 cS117 cS217 cS317 cC017 cA017 cB017 cW017 cW117 cW217 cW317 cWV017 cxS017 cxS117 cxS217 cxS317 cxC017 cxA017 tS17 tC17 tA17 tB17 tW17 tWV17 txS17 txC17 txA17
  obtain ⟨axB, kxB, rfl, laxB, baxB⟩ := id q18.shape
  have lcS018 : w.heap.size < w18.heap.size := blt cS018
  have lcC018 : w.heap.size + 1 < w18.heap.size := blt cC018
  have lcA018 : w.heap.size + 1 + 1 < w18.heap.size := blt cA018
  have lcB018 : w.heap.size + 1 + 1 + 1 < w18.heap.size := blt cB018
  have lcW018 : gAW < w18.heap.size := blt cW018
  have lcWV018 : gBW < w18.heap.size := blt cWV018
  have lcxS018 : w12.heap.size < w18.heap.size := blt cxS018
  have lcxC018 : w14.heap.size < w18.heap.size := blt cxC018
  have lcxA018 : w16.heap.size < w18.heap.size := blt cxA018
  go_wp2_with fail
  refine name_call fun w19 hw19 => ?_
  have b19 : Below w.heap.size w w19 := by rw [hw19]; (repeat (with_reducible first | exact bR _ _ | assumption | refine bD ?_ | refine bN ?_ _ | refine bA ?_ _ | refine bS ?_ _))
  have z19 : w18.heap.size + 1 ≤ w19.heap.size := by rw [hw19]; simp
  have e19 : Below w18.heap.size w18 w19 := by rw [hw19]; (repeat (with_reducible first | exact bR _ _ | assumption | refine bD ?_ | refine bN ?_ _ | refine bA ?_ _ | refine bS ?_ _))
  have cS019 := ck e19 cS018
  have cS119 := ck e19 cS118
  have cS219 := ck e19 cS218
  have cS319 := ck e19 cS318
  have cC019 := ck e19 cC018
  have cA019 := ck e19 cA018
  have cB019 := ck e19 cB018
  have cW019 := ck e19 cW018
  have cW119 := ck e19 cW118
  have cW219 := ck e19 cW218
  have cW319 := ck e19 cW318
  have cWV019 := ck e19 cWV018
  have cxS019 := ck e19 cxS018
  have cxS119 := ck e19 cxS118
  have cxS219 := ck e19 cxS218
  have cxS319 := ck e19 cxS318
  have cxC019 := ck e19 cxC018
  have cxA019 := ck e19 cxA018
  have cxB019 : w19.cell? ⟨w18.heap.size, 0, none⟩ = some (.slice axB tsB.length kxB) := by rw [hw19]; first | (simp; done) | go_simp
  have tS19 := tS18.keep e19 (by omega)
  have tC19 := tC18.keep e19 (by omega)
  have tA19 := tA18.keep e19 (by omega)
  have tB19 := tB18.keep e19 (by omega)
  have tW19 := tW18.keep e19 (by omega)
  have tWV19 := tWV18.keep e19 (by omega)
  have txS19 := txS18.keep e19 (by omega)
  have txC19 := txC18.keep e19 (by omega)
  have txA19 := txA18.keep e19 (by omega)
  have txB19 := q18.keep e19 (by omega)
  clear hw19 lcS018 lcC018 lcA018 lcB018 lcW018 lcWV018 lcxS018 lcxC018 lcxA018 cS018 cS118 cS218 cS318 cC018 cA018 cB018 cW018 cW118 cW218 cW318 cWV018 cxS018 cxS118 cxS218 cxS318 cxC018 cxA018 tS18 tC18 tA18 tB18 tW18 tWV18 txS18 txC18 txA18
  refine (addMux_impl _ _ _ _ _ _ _ sS _ _ _ _ tsC _ _ _ _ tsA _ _ _ _ tsB _ txS19 (by omega) sm txC19 (by omega) txA19 (by omega) txB19 (by omega) (by omega) (by omega) (by omega) ok r v Ho Hr Hv).mono ?_; intro e w20 hq
  obtain ⟨gi, go, gh, gc, gv, rfl, f20, tG20⟩ := AnsSL.of_ext hq
  clear hq
  have b20 := b19.trans (f20.mono (by omega))
  have z20 := f20.size
  have cS020 := ck f20 cS019
  have cS120 := ck f20 cS119
  have cS220 := ck f20 cS219
  have cS320 := ck f20 cS319
  have cC020 := ck f20 cC019
  have cA020 := ck f20 cA019
  have cB020 := ck f20 cB019
  have cW020 := ck f20 cW019
  have cW120 := ck f20 cW119
  have cW220 := ck f20 cW219
  have cW320 := ck f20 cW319
  have cWV020 := ck f20 cWV019
  have cxS020 := ck f20 cxS019
  have cxS120 := ck f20 cxS119
  have cxS220 := ck f20 cxS219
  have cxS320 := ck f20 cxS319
  have cxC020 := ck f20 cxC019
  have cxA020 := ck f20 cxA019
  have cxB020 := ck f20 cxB019
  have tS20 := tS19.keep f20 (by omega)
  have tC20 := tC19.keep f20 (by omega)
  have tA20 := tA19.keep f20 (by omega)
  have tB20 := tB19.keep f20 (by omega)
  have tW20 := tW19.keep f20 (by omega)
  have tWV20 := tWV19.keep f20 (by omega)
  have txS20 := txS19.keep f20 (by omega)
  have txC20 := txC19.keep f20 (by omega)
  have txA20 := txA19.keep f20 (by omega)
  have txB20 := txB19.keep f20 (by omega)
  clear cS019 cS119 cS219 cS319 cC019 cA019 cB019 cW019 cW119 cW219 cW319 cWV019 cxS019 cxS119 cxS219 cxS319 cxC019 cxA019 cxB019 tS19 tC19 tA19 tB19 tW19 tWV19 txS19 txC19 txA19 txB19
  obtain ⟨aoG, koG, ahG, khG, acG, kcG, rfl, rfl, rfl, rfl, loG, boG, lhG, bhG, lcG, bcG, fiG⟩ := id tG20.sys.shape
  obtain ⟨aGV, kGV, rfl, laGV, baGV⟩ := id tG20.snd.shape
  have lcS020 : w.heap.size < w20.heap.size := blt cS020
  have lcC020 : w.heap.size + 1 < w20.heap.size := blt cC020
  have lcA020 : w.heap.size + 1 + 1 < w20.heap.size := blt cA020
  have lcB020 : w.heap.size + 1 + 1 + 1 < w20.heap.size := blt cB020
  have lcW020 : gAW < w20.heap.size := blt cW020
  have lcWV020 : gBW < w20.heap.size := blt cWV020
  have lcxS020 : w12.heap.size < w20.heap.size := blt cxS020
  have lcxC020 : w14.heap.size < w20.heap.size := blt cxC020
  have lcxA020 : w16.heap.size < w20.heap.size := blt cxA020
  have lcxB020 : w18.heap.size < w20.heap.size := blt cxB020
  go_wp2_with fail
  refine name_call fun w21 hw21 => ?_
  have b21 : Below w.heap.size w w21 := by rw [hw21]; (repeat (with_reducible first | exact bR _ _ | assumption | refine bD ?_ | refine bN ?_ _ | refine bA ?_ _ | refine bS ?_ _))
  have z21 : w20.heap.size + 2 ≤ w21.heap.size := by rw [hw21]; simp
  have e21 : Below w20.heap.size w20 w21 := by rw [hw21]; (repeat (with_reducible first | exact bR _ _ | assumption | refine bD ?_ | refine bN ?_ _ | refine bA ?_ _ | refine bS ?_ _))
  have cS021 := ck e21 cS020
  have cS121 := ck e21 cS120
  have cS221 := ck e21 cS220
  have cS321 := ck e21 cS320
  have cC021 := ck e21 cC020
  have cA021 := ck e21 cA020
  have cB021 := ck e21 cB020
  have cW021 := ck e21 cW020
  have cW121 := ck e21 cW120
  have cW221 := ck e21 cW220
  have cW321 := ck e21 cW320
  have cWV021 := ck e21 cWV020
  have cxS021 := ck e21 cxS020
  have cxS121 := ck e21 cxS120
  have cxS221 := ck e21 cxS220
  have cxS321 := ck e21 cxS320
  have cxC021 := ck e21 cxC020
  have cxA021 := ck e21 cxA020
  have cxB021 := ck e21 cxB020
  have cG021 : w21.cell? ⟨w20.heap.size, 0, none⟩ = some (.int .i64 r.ins) := by rw [hw21]; first | (simp; done) | go_simp
  have cG121 : w21.cell? ⟨w20.heap.size, 1, none⟩ = some (.slice aoG r.outs.length koG) := by rw [hw21]; first | (simp; done) | go_simp
  have cG221 : w21.cell? ⟨w20.heap.size, 2, none⟩ = some (.slice ahG r.hints.length khG) := by rw [hw21]; first | (simp; done) | go_simp
  have cG321 : w21.cell? ⟨w20.heap.size, 3, none⟩ = some (.slice acG r.cons.length kcG) := by rw [hw21]; first | (simp; done) | go_simp
  have cGV021 : w21.cell? ⟨w20.heap.size + 1, 0, none⟩ = some (.slice aGV v.length kGV) := by rw [hw21]; first | (simp; done) | go_simp
  have tS21 := tS20.keep e21 (by omega)
  have tC21 := tC20.keep e21 (by omega)
  have tA21 := tA20.keep e21 (by omega)
  have tB21 := tB20.keep e21 (by omega)
  have tW21 := tW20.keep e21 (by omega)
  have tWV21 := tWV20.keep e21 (by omega)
  have txS21 := txS20.keep e21 (by omega)
  have txC21 := txC20.keep e21 (by omega)
  have txA21 := txA20.keep e21 (by omega)
  have txB21 := txB20.keep e21 (by omega)
  have tG21 := tG20.keep e21 (by omega)
  clear hw21 lcS020 lcC020 lcA020 lcB020 lcW020 lcWV020 lcxS020 lcxC020 lcxA020 lcxB020 cS020 cS120 cS220 cS320 cC020 cA020 cB020 cW020 cW120 cW220 cW320 cWV020 cxS020 cxS120 cxS220 cxS320 cxC020 cxA020 cxB020 tS20 tC20 tA20 tB20 tW20 tWV20 txS20 txC20 txA20 txB20 tG20
  refine (eqSys_same _ _ _ _ _ _ _ _ _ _ _ _ _ _ r _ (tG21.sys) (tW21) (by omega) (by omega)).mono ?_; rintro e w22 ⟨rfl, f22⟩
  have b22 := b21.trans (f22.mono (by omega))
  have z22 := f22.size
  have cS022 := ck f22 cS021
  have cS122 := ck f22 cS121
  have cS222 := ck f22 cS221
  have cS322 := ck f22 cS321
  have cC022 := ck f22 cC021
  have cA022 := ck f22 cA021
  have cB022 := ck f22 cB021
  have cW022 := ck f22 cW021
  have cW122 := ck f22 cW121
  have cW222 := ck f22 cW221
  have cW322 := ck f22 cW321
  have cWV022 := ck f22 cWV021
  have cxS022 := ck f22 cxS021
  have cxS122 := ck f22 cxS121
  have cxS222 := ck f22 cxS221
  have cxS322 := ck f22 cxS321
  have cxC022 := ck f22 cxC021
  have cxA022 := ck f22 cxA021
  have cxB022 := ck f22 cxB021
  have cG022 := ck f22 cG021
  have cG122 := ck f22 cG121
  have cG222 := ck f22 cG221
  have cG322 := ck f22 cG321
  have cGV022 := ck f22 cGV021
  have tS22 := tS21.keep f22 (by omega)
  have tC22 := tC21.keep f22 (by omega)
  have tA22 := tA21.keep f22 (by omega)
  have tB22 := tB21.keep f22 (by omega)
  have tW22 := tW21.keep f22 (by omega)
  have tWV22 := tWV21.keep f22 (by omega)
  have txS22 := txS21.keep f22 (by omega)
  have txC22 := txC21.keep f22 (by omega)
  have txA22 := txA21.keep f22 (by omega)
  have txB22 := txB21.keep f22 (by omega)
  have tG22 := tG21.keep f22 (by omega)
  clear cS021 cS121 cS221 cS321 cC021 cA021 cB021 cW021 cW121 cW221 cW321 cWV021 cxS021 cxS121 cxS221 cxS321 cxC021 cxA021 cxB021 cG021 cG121 cG221 cG321 cGV021 tS21 tC21 tA21 tB21 tW21 tWV21 txS21 txC21 txA21 txB21 tG21
  have lcS022 : w.heap.size < w22.heap.size := blt cS022
  have lcC022 : w.heap.size + 1 < w22.heap.size := blt cC022
  have lcA022 : w.heap.size + 1 + 1 < w22.heap.size := blt cA022
  have lcB022 : w.heap.size + 1 + 1 + 1 < w22.heap.size := blt cB022
  have lcW022 : gAW < w22.heap.size := blt cW022
  have lcWV022 : gBW < w22.heap.size := blt cWV022
  have lcxS022 : w12.heap.size < w22.heap.size := blt cxS022
  have lcxC022 : w14.heap.size < w22.heap.size := blt cxC022
  have lcxA022 : w16.heap.size < w22.heap.size := blt cxA022
  have lcxB022 : w18.heap.size < w22.heap.size := blt cxB022
  have lcG022 : w20.heap.size < w22.heap.size := blt cG022
  have lcGV022 : w20.heap.size + 1 < w22.heap.size := blt cGV022
  go_wp2_with fail
  refine name_call fun w23 hw23 => ?_
  have b23 : Below w.heap.size w w23 := by rw [hw23]; (repeat (with_reducible first | exact bR _ _ | assumption | refine bD ?_ | refine bN ?_ _ | refine bA ?_ _ | refine bS ?_ _))
  have z23 : w22.heap.size + 0 ≤ w23.heap.size := by rw [hw23]; simp
  have e23 : Below w22.heap.size w22 w23 := by rw [hw23]; (repeat (with_reducible first | exact bR _ _ | assumption | refine bD ?_ | refine bN ?_ _ | refine bA ?_ _ | refine bS ?_ _))
  have cS023 := ck e23 cS022
  have cS123 := ck e23 cS122
  have cS223 := ck e23 cS222
  have cS323 := ck e23 cS322
  have cC023 := ck e23 cC022
  have cA023 := ck e23 cA022
  have cB023 := ck e23 cB022
  have cW023 := ck e23 cW022
  have cW123 := ck e23 cW122
  have cW223 := ck e23 cW222
  have cW323 := ck e23 cW322
  have cWV023 := ck e23 cWV022
  have cxS023 := ck e23 cxS022
  have cxS123 := ck e23 cxS122
  have cxS223 := ck e23 cxS222
  have cxS323 := ck e23 cxS322
  have cxC023 := ck e23 cxC022
  have cxA023 := ck e23 cxA022
  have cxB023 := ck e23 cxB022
  have cG023 := ck e23 cG022
  have cG123 := ck e23 cG122
  have cG223 := ck e23 cG222
  have cG323 := ck e23 cG322
  have cGV023 := ck e23 cGV022
  have tS23 := tS22.keep e23 (by omega)
  have tC23 := tC22.keep e23 (by omega)
  have tA23 := tA22.keep e23 (by omega)
  have tB23 := tB22.keep e23 (by omega)
  have tW23 := tW22.keep e23 (by omega)
  have tWV23 := tWV22.keep e23 (by omega)
  have txS23 := txS22.keep e23 (by omega)
  have txC23 := txC22.keep e23 (by omega)
  have txA23 := txA22.keep e23 (by omega)
  have txB23 := txB22.keep e23 (by omega)
  have tG23 := tG22.keep e23 (by omega)
  clear hw23 lcS022 lcC022 lcA022 lcB022 lcW022 lcWV022 lcxS022 lcxC022 lcxA022 lcxB022 lcG022 lcGV022 cS022 cS122 cS222 cS322 cC022 cA022 cB022 cW022 cW122 cW222 cW322 cWV022 cxS022 cxS122 cxS222 cxS322 cxC022 cxA022 cxB022 cG022 cG122 cG222 cG322 cGV022 tS22 tC22 tA22 tB22 tW22 tWV22 txS22 txC22 txA22 txB22 tG22
  refine (eqLin_same _ _ _ _ _ _ _ _ v _ (tG23.snd) (tWV23) (by omega) (by omega)).mono ?_; rintro e w24 ⟨rfl, f24⟩
  have b24 := b23.trans (f24.mono (by omega))
  have z24 := f24.size
  have cS024 := ck f24 cS023
  have cS124 := ck f24 cS123
  have cS224 := ck f24 cS223
  have cS324 := ck f24 cS323
  have cC024 := ck f24 cC023
  have cA024 := ck f24 cA023
  have cB024 := ck f24 cB023
  have cW024 := ck f24 cW023
  have cW124 := ck f24 cW123
  have cW224 := ck f24 cW223
  have cW324 := ck f24 cW323
  have cWV024 := ck f24 cWV023
  have cxS024 := ck f24 cxS023
  have cxS124 := ck f24 cxS123
  have cxS224 := ck f24 cxS223
  have cxS324 := ck f24 cxS323
  have cxC024 := ck f24 cxC023
  have cxA024 := ck f24 cxA023
  have cxB024 := ck f24 cxB023
  have cG024 := ck f24 cG023
  have cG124 := ck f24 cG123
  have cG224 := ck f24 cG223
  have cG324 := ck f24 cG323
  have cGV024 := ck f24 cGV023
  have tS24 := tS23.keep f24 (by omega)
  have tC24 := tC23.keep f24 (by omega)
  have tA24 := tA23.keep f24 (by omega)
  have tB24 := tB23.keep f24 (by omega)
  have tW24 := tW23.keep f24 (by omega)
  have tWV24 := tWV23.keep f24 (by omega)
  have txS24 := txS23.keep f24 (by omega)
  have txC24 := txC23.keep f24 (by omega)
  have txA24 := txA23.keep f24 (by omega)
  have txB24 := txB23.keep f24 (by omega)
  have tG24 := tG23.keep f24 (by omega)
  clear cS023 cS123 cS223 cS323 cC023 cA023 cB023 cW023 cW123 cW223 cW323 cWV023 cxS023 cxS123 cxS223 cxS323 cxC023 cxA023 cxB023 cG023 cG123 cG223 cG323 cGV023 tS23 tC23 tA23 tB23 tW23 tWV23 txS23 txC23 txA23 txB23 tG23
  have lcS024 : w.heap.size < w24.heap.size := blt cS024
  have lcC024 : w.heap.size + 1 < w24.heap.size := blt cC024
  have lcA024 : w.heap.size + 1 + 1 < w24.heap.size := blt cA024
  have lcB024 : w.heap.size + 1 + 1 + 1 < w24.heap.size := blt cB024
  have lcW024 : gAW < w24.heap.size := blt cW024
  have lcWV024 : gBW < w24.heap.size := blt cWV024
  have lcxS024 : w12.heap.size < w24.heap.size := blt cxS024
  have lcxC024 : w14.heap.size < w24.heap.size := blt cxC024
  have lcxA024 : w16.heap.size < w24.heap.size := blt cxA024
  have lcxB024 : w18.heap.size < w24.heap.size := blt cxB024
  have lcG024 : w20.heap.size < w24.heap.size := blt cG024
  have lcGV024 : w20.heap.size + 1 < w24.heap.size := blt cGV024
  go_wp2_with fail
  refine name_wp fun w25 hw25 => ?_
  have b25 : Below w.heap.size w w25 := by rw [hw25]; (repeat (with_reducible first | exact bR _ _ | assumption | refine bD ?_ | refine bN ?_ _ | refine bA ?_ _ | refine bS ?_ _))
  have z25 : w24.heap.size + 0 ≤ w25.heap.size := by rw [hw25]; simp
  have e25 : Below w24.heap.size w24 w25 := by rw [hw25]; (repeat (with_reducible first | exact bR _ _ | assumption | refine bD ?_ | refine bN ?_ _ | refine bA ?_ _ | refine bS ?_ _))
  have cS025 := ck e25 cS024
  have cS125 := ck e25 cS124
  have cS225 := ck e25 cS224
  have cS325 := ck e25 cS324
  have cC025 := ck e25 cC024
  have cA025 := ck e25 cA024
  have cB025 := ck e25 cB024
  have cW025 := ck e25 cW024
  have cW125 := ck e25 cW124
  have cW225 := ck e25 cW224
  have cW325 := ck e25 cW324
  have cWV025 := ck e25 cWV024
  have cxS025 := ck e25 cxS024
  have cxS125 := ck e25 cxS124
  have cxS225 := ck e25 cxS224
  have cxS325 := ck e25 cxS324
  have cxC025 := ck e25 cxC024
  have cxA025 := ck e25 cxA024
  have cxB025 := ck e25 cxB024
  have cG025 := ck e25 cG024
  have cG125 := ck e25 cG124
  have cG225 := ck e25 cG224
  have cG325 := ck e25 cG324
  have cGV025 := ck e25 cGV024
  have tS25 := tS24.keep e25 (by omega)
  have tC25 := tC24.keep e25 (by omega)
  have tA25 := tA24.keep e25 (by omega)
  have tB25 := tB24.keep e25 (by omega)
  have tW25 := tW24.keep e25 (by omega)
  have tWV25 := tWV24.keep e25 (by omega)
  have txS25 := txS24.keep e25 (by omega)
  have txC25 := txC24.keep e25 (by omega)
  have txA25 := txA24.keep e25 (by omega)
  have txB25 := txB24.keep e25 (by omega)
  have tG25 := tG24.keep e25 (by omega)
  clear hw25 lcS024 lcC024 lcA024 lcB024 lcW024 lcWV024 lcxS024 lcxC024 lcxA024 lcxB024 lcG024 lcGV024 cS024 cS124 cS224 cS324 cC024 cA024 cB024 cW024 cW124 cW224 cW324 cWV024 cxS024 cxS124 cxS224 cxS324 cxC024 cxA024 cxB024 cG024 cG124 cG224 cG324 cGV024 tS24 tC24 tA24 tB24 tW24 tWV24 txS24 txC24 txA24 txB24 tG24
  have d25 : Below w25.heap.size w25 w25.drew := (Below.refl _ _).drew
  have zd25 : w25.heap.size ≤ w25.drew.heap.size := Nat.le_refl _
  have ze25 : w25.drew.heap.size ≤ w25.heap.size := Nat.le_refl _
  have GxS0 : w25.drew.cell? ⟨w12.heap.size, 0, none⟩ = some (.int .i64 sS.ins) := cell_keep d25 cxS025
  have GxS1 : w25.drew.cell? ⟨w12.heap.size, 1, none⟩ = some (.slice aoxS sS.outs.length koxS) := cell_keep d25 cxS125
  have GxS2 : w25.drew.cell? ⟨w12.heap.size, 2, none⟩ = some (.slice ahxS sS.hints.length khxS) := cell_keep d25 cxS225
  have GxS3 : w25.drew.cell? ⟨w12.heap.size, 3, none⟩ = some (.slice acxS sS.cons.length kcxS) := cell_keep d25 cxS325
  have GS0 : w25.drew.cell? ⟨w.heap.size, 0, none⟩ = some (.int .i64 sS.ins) := cell_keep d25 cS025
  have GS1 : w25.drew.cell? ⟨w.heap.size, 1, none⟩ = some (.slice aoS sS.outs.length koS) := cell_keep d25 cS125
  have GS2 : w25.drew.cell? ⟨w.heap.size, 2, none⟩ = some (.slice ahS sS.hints.length khS) := cell_keep d25 cS225
  have GS3 : w25.drew.cell? ⟨w.heap.size, 3, none⟩ = some (.slice acS sS.cons.length kcS) := cell_keep d25 cS325
  have US := tS25.keep d25 (by omega)
  have UxS := txS25.keep d25 (by omega)
  go_region_held3 (fun w' => w'.cell? ⟨w12.heap.size, 0, none⟩ = some (.int .i64 sS.ins) ∧ w'.cell? ⟨w12.heap.size, 1, none⟩ = some (.slice aoxS sS.outs.length koxS) ∧ w'.cell? ⟨w12.heap.size, 2, none⟩ = some (.slice ahxS sS.hints.length khxS) ∧ w'.cell? ⟨w12.heap.size, 3, none⟩ = some (.slice acxS sS.cons.length kcxS) ∧ w'.cell? ⟨w.heap.size, 0, none⟩ = some (.int .i64 sS.ins) ∧ w'.cell? ⟨w.heap.size, 1, none⟩ = some (.slice aoS sS.outs.length koS) ∧ w'.cell? ⟨w.heap.size, 2, none⟩ = some (.slice ahS sS.hints.length khS) ∧ w'.cell? ⟨w.heap.size, 3, none⟩ = some (.slice acS sS.cons.length kcS)) (first | exact ⟨GxS0, GxS1, GxS2, GxS3, GS0, GS1, GS2, GS3⟩ | exact ⟨cell_keep j1 GxS0, cell_keep j1 GxS1, cell_keep j1 GxS2, cell_keep j1 GxS3, cell_keep j1 GS0, cell_keep j1 GS1, cell_keep j1 GS2, cell_keep j1 GS3⟩ | exact ⟨cell_keep j2 (cell_keep j1 GxS0), cell_keep j2 (cell_keep j1 GxS1), cell_keep j2 (cell_keep j1 GxS2), cell_keep j2 (cell_keep j1 GxS3), cell_keep j2 (cell_keep j1 GS0), cell_keep j2 (cell_keep j1 GS1), cell_keep j2 (cell_keep j1 GS2), cell_keep j2 (cell_keep j1 GS3)⟩)
    (first
      | (go_at_call 13; refine (toSys_any false 0 w.heap.size _ _ _ _ sS w25.drew US (by omega) (by omega)).mono ?_; rintro e v1 ⟨uo1, uh1, uc1, rfl, j1, q1⟩; obtain ⟨ao1, ko1, ah1, kh1, ac1, kc1, -, rfl, rfl, rfl, lo1, bo1, lh1, bh1, lc1, bc1, -⟩ := id q1.shape; have s1 := j1.size)
      | (go_at_call 16; refine (eqSys_same _ _ _ _ _ _ _ _ _ _ _ _ _ _ sS v1 (UxS.keep j1 (by omega)) q1 (by omega) (Nat.le_refl _)).mono ?_; rintro e v2 ⟨rfl, j2⟩))
  have s2 := j2.size
  obtain ⟨w26, hw26⟩ : ∃ x, x = v2 := ⟨_, rfl⟩
  subst hw26
  have f26 : Below w25.heap.size w25 w26 := (d25.trans (j1.mono (by omega))).trans (j2.mono (by omega))
  have b26 := b25.trans (f26.mono (by omega))
  have z26 := f26.size
  have cS026 := ck f26 cS025
  have cS126 := ck f26 cS125
  have cS226 := ck f26 cS225
  have cS326 := ck f26 cS325
  have cC026 := ck f26 cC025
  have cA026 := ck f26 cA025
  have cB026 := ck f26 cB025
  have cW026 := ck f26 cW025
  have cW126 := ck f26 cW125
  have cW226 := ck f26 cW225
  have cW326 := ck f26 cW325
  have cWV026 := ck f26 cWV025
  have cxS026 := ck f26 cxS025
  have cxS126 := ck f26 cxS125
  have cxS226 := ck f26 cxS225
  have cxS326 := ck f26 cxS325
  have cxC026 := ck f26 cxC025
  have cxA026 := ck f26 cxA025
  have cxB026 := ck f26 cxB025
  have cG026 := ck f26 cG025
  have cG126 := ck f26 cG125
  have cG226 := ck f26 cG225
  have cG326 := ck f26 cG325
  have cGV026 := ck f26 cGV025
  have tS26 := tS25.keep f26 (by omega)
  have tC26 := tC25.keep f26 (by omega)
  have tA26 := tA25.keep f26 (by omega)
  have tB26 := tB25.keep f26 (by omega)
  have tW26 := tW25.keep f26 (by omega)
  have tWV26 := tWV25.keep f26 (by omega)
  have txS26 := txS25.keep f26 (by omega)
  have txC26 := txC25.keep f26 (by omega)
  have txA26 := txA25.keep f26 (by omega)
  have txB26 := txB25.keep f26 (by omega)
  have tG26 := tG25.keep f26 (by omega)
  clear cS025 cS125 cS225 cS325 cC025 cA025 cB025 cW025 cW125 cW225 cW325 cWV025 cxS025 cxS125 cxS225 cxS325 cxC025 cxA025 cxB025 cG025 cG125 cG225 cG325 cGV025 tS25 tC25 tA25 tB25 tW25 tWV25 txS25 txC25 txA25 txB25 tG25 GxS0 GxS1 GxS2 GxS3 GS0 GS1 GS2 GS3 US UxS
  have lcS026 : w.heap.size < w26.heap.size := blt cS026
  have lcC026 : w.heap.size + 1 < w26.heap.size := blt cC026
  have lcA026 : w.heap.size + 1 + 1 < w26.heap.size := blt cA026
  have lcB026 : w.heap.size + 1 + 1 + 1 < w26.heap.size := blt cB026
  have lcW026 : gAW < w26.heap.size := blt cW026
  have lcWV026 : gBW < w26.heap.size := blt cWV026
  have lcxS026 : w12.heap.size < w26.heap.size := blt cxS026
  have lcxC026 : w14.heap.size < w26.heap.size := blt cxC026
  have lcxA026 : w16.heap.size < w26.heap.size := blt cxA026
  have lcxB026 : w18.heap.size < w26.heap.size := blt cxB026
  have lcG026 : w20.heap.size < w26.heap.size := blt cG026
  have lcGV026 : w20.heap.size + 1 < w26.heap.size := blt cGV026
  go_wp2_with fail
  refine name_wp fun w27 hw27 => ?_
  have b27 : Below w.heap.size w w27 := by rw [hw27]; (repeat (with_reducible first | exact bR _ _ | assumption | refine bD ?_ | refine bN ?_ _ | refine bA ?_ _ | refine bS ?_ _))
  have z27 : w26.heap.size + 0 ≤ w27.heap.size := by rw [hw27]; simp
  have e27 : Below w26.heap.size w26 w27 := by rw [hw27]; (repeat (with_reducible first | exact bR _ _ | assumption | refine bD ?_ | refine bN ?_ _ | refine bA ?_ _ | refine bS ?_ _))
  have cS027 := ck e27 cS026
  have cS127 := ck e27 cS126
  have cS227 := ck e27 cS226
  have cS327 := ck e27 cS326
  have cC027 := ck e27 cC026
  have cA027 := ck e27 cA026
  have cB027 := ck e27 cB026
  have cW027 := ck e27 cW026
  have cW127 := ck e27 cW126
  have cW227 := ck e27 cW226
  have cW327 := ck e27 cW326
  have cWV027 := ck e27 cWV026
  have cxS027 := ck e27 cxS026
  have cxS127 := ck e27 cxS126
  have cxS227 := ck e27 cxS226
  have cxS327 := ck e27 cxS326
  have cxC027 := ck e27 cxC026
  have cxA027 := ck e27 cxA026
  have cxB027 := ck e27 cxB026
  have cG027 := ck e27 cG026
  have cG127 := ck e27 cG126
  have cG227 := ck e27 cG226
  have cG327 := ck e27 cG326
  have cGV027 := ck e27 cGV026
  have tS27 := tS26.keep e27 (by omega)
  have tC27 := tC26.keep e27 (by omega)
  have tA27 := tA26.keep e27 (by omega)
  have tB27 := tB26.keep e27 (by omega)
  have tW27 := tW26.keep e27 (by omega)
  have tWV27 := tWV26.keep e27 (by omega)
  have txS27 := txS26.keep e27 (by omega)
  have txC27 := txC26.keep e27 (by omega)
  have txA27 := txA26.keep e27 (by omega)
  have txB27 := txB26.keep e27 (by omega)
  have tG27 := tG26.keep e27 (by omega)
  clear hw27 lcS026 lcC026 lcA026 lcB026 lcW026 lcWV026 lcxS026 lcxC026 lcxA026 lcxB026 lcG026 lcGV026 cS026 cS126 cS226 cS326 cC026 cA026 cB026 cW026 cW126 cW226 cW326 cWV026 cxS026 cxS126 cxS226 cxS326 cxC026 cxA026 cxB026 cG026 cG126 cG226 cG326 cGV026 tS26 tC26 tA26 tB26 tW26 tWV26 txS26 txC26 txA26 txB26 tG26
  have d27 : Below w27.heap.size w27 w27.drew := (Below.refl _ _).drew
  have zd27 : w27.heap.size ≤ w27.drew.heap.size := Nat.le_refl _
  have ze27 : w27.drew.heap.size ≤ w27.heap.size := Nat.le_refl _
  have GxC0 : w27.drew.cell? ⟨w14.heap.size, 0, none⟩ = some (.slice axC tsC.length kxC) := cell_keep d27 cxC027
  have GC0 : w27.drew.cell? ⟨w.heap.size + 1, 0, none⟩ = some (.slice aC tsC.length kC) := cell_keep d27 cC027
  have UC := tC27.keep d27 (by omega)
  have UxC := txC27.keep d27 (by omega)
  go_region_held3 (fun w' => w'.cell? ⟨w14.heap.size, 0, none⟩ = some (.slice axC tsC.length kxC) ∧ w'.cell? ⟨w.heap.size + 1, 0, none⟩ = some (.slice aC tsC.length kC)) (first | exact ⟨GxC0, GC0⟩ | exact ⟨cell_keep j1 GxC0, cell_keep j1 GC0⟩ | exact ⟨cell_keep j2 (cell_keep j1 GxC0), cell_keep j2 (cell_keep j1 GC0)⟩)
    (first
      | (go_at_call 14; refine (toLin_any false 0 w.heap.size _ tsC w27.drew UC (by omega) (by omega)).mono ?_; rintro e v1 ⟨uo1, rfl, j1, q1⟩; obtain ⟨a1, k1, rfl, la1, ba1⟩ := id q1.shape; have s1 := j1.size)
      | (go_at_call 17; refine (eqLin_same _ _ _ _ _ _ _ _ tsC v1 (UxC.keep j1 (by omega)) q1 (by omega) (Nat.le_refl _)).mono ?_; rintro e v2 ⟨rfl, j2⟩))
  have s2 := j2.size
  obtain ⟨w28, hw28⟩ : ∃ x, x = v2 := ⟨_, rfl⟩
  subst hw28
  have f28 : Below w27.heap.size w27 w28 := (d27.trans (j1.mono (by omega))).trans (j2.mono (by omega))
  have b28 := b27.trans (f28.mono (by omega))
  have z28 := f28.size
  have cS028 := ck f28 cS027
  have cS128 := ck f28 cS127
  have cS228 := ck f28 cS227
  have cS328 := ck f28 cS327
  have cC028 := ck f28 cC027
  have cA028 := ck f28 cA027
  have cB028 := ck f28 cB027
  have cW028 := ck f28 cW027
  have cW128 := ck f28 cW127
  have cW228 := ck f28 cW227
  have cW328 := ck f28 cW327
  have cWV028 := ck f28 cWV027
  have cxS028 := ck f28 cxS027
  have cxS128 := ck f28 cxS127
  have cxS228 := ck f28 cxS227
  have cxS328 := ck f28 cxS327
  have cxC028 := ck f28 cxC027
  have cxA028 := ck f28 cxA027
  have cxB028 := ck f28 cxB027
  have cG028 := ck f28 cG027
  have cG128 := ck f28 cG127
  have cG228 := ck f28 cG227
  have cG328 := ck f28 cG327
  have cGV028 := ck f28 cGV027
  have tS28 := tS27.keep f28 (by omega)
  have tC28 := tC27.keep f28 (by omega)
  have tA28 := tA27.keep f28 (by omega)
  have tB28 := tB27.keep f28 (by omega)
  have tW28 := tW27.keep f28 (by omega)
  have tWV28 := tWV27.keep f28 (by omega)
  have txS28 := txS27.keep f28 (by omega)
  have txC28 := txC27.keep f28 (by omega)
  have txA28 := txA27.keep f28 (by omega)
  have txB28 := txB27.keep f28 (by omega)
  have tG28 := tG27.keep f28 (by omega)
  clear cS027 cS127 cS227 cS327 cC027 cA027 cB027 cW027 cW127 cW227 cW327 cWV027 cxS027 cxS127 cxS227 cxS327 cxC027 cxA027 cxB027 cG027 cG127 cG227 cG327 cGV027 tS27 tC27 tA27 tB27 tW27 tWV27 txS27 txC27 txA27 txB27 tG27 GxC0 GC0 UC UxC
  have lcS028 : w.heap.size < w28.heap.size := blt cS028
  have lcC028 : w.heap.size + 1 < w28.heap.size := blt cC028
  have lcA028 : w.heap.size + 1 + 1 < w28.heap.size := blt cA028
  have lcB028 : w.heap.size + 1 + 1 + 1 < w28.heap.size := blt cB028
  have lcW028 : gAW < w28.heap.size := blt cW028
  have lcWV028 : gBW < w28.heap.size := blt cWV028
  have lcxS028 : w12.heap.size < w28.heap.size := blt cxS028
  have lcxC028 : w14.heap.size < w28.heap.size := blt cxC028
  have lcxA028 : w16.heap.size < w28.heap.size := blt cxA028
  have lcxB028 : w18.heap.size < w28.heap.size := blt cxB028
  have lcG028 : w20.heap.size < w28.heap.size := blt cG028
  have lcGV028 : w20.heap.size + 1 < w28.heap.size := blt cGV028
  go_wp2_with fail
  refine name_wp fun w29 hw29 => ?_
  have b29 : Below w.heap.size w w29 := by rw [hw29]; (repeat (with_reducible first | exact bR _ _ | assumption | refine bD ?_ | refine bN ?_ _ | refine bA ?_ _ | refine bS ?_ _))
  have z29 : w28.heap.size + 0 ≤ w29.heap.size := by rw [hw29]; simp
  have e29 : Below w28.heap.size w28 w29 := by rw [hw29]; (repeat (with_reducible first | exact bR _ _ | assumption | refine bD ?_ | refine bN ?_ _ | refine bA ?_ _ | refine bS ?_ _))
  have cS029 := ck e29 cS028
  have cS129 := ck e29 cS128
  have cS229 := ck e29 cS228
  have cS329 := ck e29 cS328
  have cC029 := ck e29 cC028
  have cA029 := ck e29 cA028
  have cB029 := ck e29 cB028
  have cW029 := ck e29 cW028
  have cW129 := ck e29 cW128
  have cW229 := ck e29 cW228
  have cW329 := ck e29 cW328
  have cWV029 := ck e29 cWV028
  have cxS029 := ck e29 cxS028
  have cxS129 := ck e29 cxS128
  have cxS229 := ck e29 cxS228
  have cxS329 := ck e29 cxS328
  have cxC029 := ck e29 cxC028
  have cxA029 := ck e29 cxA028
  have cxB029 := ck e29 cxB028
  have cG029 := ck e29 cG028
  have cG129 := ck e29 cG128
  have cG229 := ck e29 cG228
  have cG329 := ck e29 cG328
  have cGV029 := ck e29 cGV028
  have tS29 := tS28.keep e29 (by omega)
  have tC29 := tC28.keep e29 (by omega)
  have tA29 := tA28.keep e29 (by omega)
  have tB29 := tB28.keep e29 (by omega)
  have tW29 := tW28.keep e29 (by omega)
  have tWV29 := tWV28.keep e29 (by omega)
  have txS29 := txS28.keep e29 (by omega)
  have txC29 := txC28.keep e29 (by omega)
  have txA29 := txA28.keep e29 (by omega)
  have txB29 := txB28.keep e29 (by omega)
  have tG29 := tG28.keep e29 (by omega)
  clear hw29 lcS028 lcC028 lcA028 lcB028 lcW028 lcWV028 lcxS028 lcxC028 lcxA028 lcxB028 lcG028 lcGV028 cS028 cS128 cS228 cS328 cC028 cA028 cB028 cW028 cW128 cW228 cW328 cWV028 cxS028 cxS128 cxS228 cxS328 cxC028 cxA028 cxB028 cG028 cG128 cG228 cG328 cGV028 tS28 tC28 tA28 tB28 tW28 tWV28 txS28 txC28 txA28 txB28 tG28
  have d29 : Below w29.heap.size w29 w29.drew := (Below.refl _ _).drew
  have zd29 : w29.heap.size ≤ w29.drew.heap.size := Nat.le_refl _
  have ze29 : w29.drew.heap.size ≤ w29.heap.size := Nat.le_refl _
  have GxA0 : w29.drew.cell? ⟨w16.heap.size, 0, none⟩ = some (.slice axA tsA.length kxA) := cell_keep d29 cxA029
  have GA0 : w29.drew.cell? ⟨w.heap.size + 1 + 1, 0, none⟩ = some (.slice aA tsA.length kA) := cell_keep d29 cA029
  have UA := tA29.keep d29 (by omega)
  have UxA := txA29.keep d29 (by omega)
  go_region_held3 (fun w' => w'.cell? ⟨w16.heap.size, 0, none⟩ = some (.slice axA tsA.length kxA) ∧ w'.cell? ⟨w.heap.size + 1 + 1, 0, none⟩ = some (.slice aA tsA.length kA)) (first | exact ⟨GxA0, GA0⟩ | exact ⟨cell_keep j1 GxA0, cell_keep j1 GA0⟩ | exact ⟨cell_keep j2 (cell_keep j1 GxA0), cell_keep j2 (cell_keep j1 GA0)⟩)
    (first
      | (go_at_call 14; refine (toLin_any false 0 w.heap.size _ tsA w29.drew UA (by omega) (by omega)).mono ?_; rintro e v1 ⟨uo1, rfl, j1, q1⟩; obtain ⟨a1, k1, rfl, la1, ba1⟩ := id q1.shape; have s1 := j1.size)
      | (go_at_call 17; refine (eqLin_same _ _ _ _ _ _ _ _ tsA v1 (UxA.keep j1 (by omega)) q1 (by omega) (Nat.le_refl _)).mono ?_; rintro e v2 ⟨rfl, j2⟩))
  have s2 := j2.size
  obtain ⟨w30, hw30⟩ : ∃ x, x = v2 := ⟨_, rfl⟩
  subst hw30
  have f30 : Below w29.heap.size w29 w30 := (d29.trans (j1.mono (by omega))).trans (j2.mono (by omega))
  have b30 := b29.trans (f30.mono (by omega))
  have z30 := f30.size
  have cS030 := ck f30 cS029
  have cS130 := ck f30 cS129
  have cS230 := ck f30 cS229
  have cS330 := ck f30 cS329
  have cC030 := ck f30 cC029
  have cA030 := ck f30 cA029
  have cB030 := ck f30 cB029
  have cW030 := ck f30 cW029
  have cW130 := ck f30 cW129
  have cW230 := ck f30 cW229
  have cW330 := ck f30 cW329
  have cWV030 := ck f30 cWV029
  have cxS030 := ck f30 cxS029
  have cxS130 := ck f30 cxS129
  have cxS230 := ck f30 cxS229
  have cxS330 := ck f30 cxS329
  have cxC030 := ck f30 cxC029
  have cxA030 := ck f30 cxA029
  have cxB030 := ck f30 cxB029
  have cG030 := ck f30 cG029
  have cG130 := ck f30 cG129
  have cG230 := ck f30 cG229
  have cG330 := ck f30 cG329
  have cGV030 := ck f30 cGV029
  have tS30 := tS29.keep f30 (by omega)
  have tC30 := tC29.keep f30 (by omega)
  have tA30 := tA29.keep f30 (by omega)
  have tB30 := tB29.keep f30 (by omega)
  have tW30 := tW29.keep f30 (by omega)
  have tWV30 := tWV29.keep f30 (by omega)
  have txS30 := txS29.keep f30 (by omega)
  have txC30 := txC29.keep f30 (by omega)
  have txA30 := txA29.keep f30 (by omega)
  have txB30 := txB29.keep f30 (by omega)
  have tG30 := tG29.keep f30 (by omega)
  clear cS029 cS129 cS229 cS329 cC029 cA029 cB029 cW029 cW129 cW229 cW329 cWV029 cxS029 cxS129 cxS229 cxS329 cxC029 cxA029 cxB029 cG029 cG129 cG229 cG329 cGV029 tS29 tC29 tA29 tB29 tW29 tWV29 txS29 txC29 txA29 txB29 tG29 GxA0 GA0 UA UxA
  have lcS030 : w.heap.size < w30.heap.size := blt cS030
  have lcC030 : w.heap.size + 1 < w30.heap.size := blt cC030
  have lcA030 : w.heap.size + 1 + 1 < w30.heap.size := blt cA030
  have lcB030 : w.heap.size + 1 + 1 + 1 < w30.heap.size := blt cB030
  have lcW030 : gAW < w30.heap.size := blt cW030
  have lcWV030 : gBW < w30.heap.size := blt cWV030
  have lcxS030 : w12.heap.size < w30.heap.size := blt cxS030
  have lcxC030 : w14.heap.size < w30.heap.size := blt cxC030
  have lcxA030 : w16.heap.size < w30.heap.size := blt cxA030
  have lcxB030 : w18.heap.size < w30.heap.size := blt cxB030
  have lcG030 : w20.heap.size < w30.heap.size := blt cG030
  have lcGV030 : w20.heap.size + 1 < w30.heap.size := blt cGV030
  go_wp2_with fail
  refine name_wp fun w31 hw31 => ?_
  have b31 : Below w.heap.size w w31 := by rw [hw31]; (repeat (with_reducible first | exact bR _ _ | assumption | refine bD ?_ | refine bN ?_ _ | refine bA ?_ _ | refine bS ?_ _))
  have z31 : w30.heap.size + 0 ≤ w31.heap.size := by rw [hw31]; simp
  have e31 : Below w30.heap.size w30 w31 := by rw [hw31]; (repeat (with_reducible first | exact bR _ _ | assumption | refine bD ?_ | refine bN ?_ _ | refine bA ?_ _ | refine bS ?_ _))
  have cS031 := ck e31 cS030
  have cS131 := ck e31 cS130
  have cS231 := ck e31 cS230
  have cS331 := ck e31 cS330
  have cC031 := ck e31 cC030
  have cA031 := ck e31 cA030
  have cB031 := ck e31 cB030
  have cW031 := ck e31 cW030
  have cW131 := ck e31 cW130
  have cW231 := ck e31 cW230
  have cW331 := ck e31 cW330
  have cWV031 := ck e31 cWV030
  have cxS031 := ck e31 cxS030
  have cxS131 := ck e31 cxS130
  have cxS231 := ck e31 cxS230
  have cxS331 := ck e31 cxS330
  have cxC031 := ck e31 cxC030
  have cxA031 := ck e31 cxA030
  have cxB031 := ck e31 cxB030
  have cG031 := ck e31 cG030
  have cG131 := ck e31 cG130
  have cG231 := ck e31 cG230
  have cG331 := ck e31 cG330
  have cGV031 := ck e31 cGV030
  have tS31 := tS30.keep e31 (by omega)
  have tC31 := tC30.keep e31 (by omega)
  have tA31 := tA30.keep e31 (by omega)
  have tB31 := tB30.keep e31 (by omega)
  have tW31 := tW30.keep e31 (by omega)
  have tWV31 := tWV30.keep e31 (by omega)
  have txS31 := txS30.keep e31 (by omega)
  have txC31 := txC30.keep e31 (by omega)
  have txA31 := txA30.keep e31 (by omega)
  have txB31 := txB30.keep e31 (by omega)
  have tG31 := tG30.keep e31 (by omega)
  clear hw31 lcS030 lcC030 lcA030 lcB030 lcW030 lcWV030 lcxS030 lcxC030 lcxA030 lcxB030 lcG030 lcGV030 cS030 cS130 cS230 cS330 cC030 cA030 cB030 cW030 cW130 cW230 cW330 cWV030 cxS030 cxS130 cxS230 cxS330 cxC030 cxA030 cxB030 cG030 cG130 cG230 cG330 cGV030 tS30 tC30 tA30 tB30 tW30 tWV30 txS30 txC30 txA30 txB30 tG30
  have d31 : Below w31.heap.size w31 w31.drew := (Below.refl _ _).drew
  have zd31 : w31.heap.size ≤ w31.drew.heap.size := Nat.le_refl _
  have ze31 : w31.drew.heap.size ≤ w31.heap.size := Nat.le_refl _
  have GxB0 : w31.drew.cell? ⟨w18.heap.size, 0, none⟩ = some (.slice axB tsB.length kxB) := cell_keep d31 cxB031
  have GB0 : w31.drew.cell? ⟨w.heap.size + 1 + 1 + 1, 0, none⟩ = some (.slice aB tsB.length kB) := cell_keep d31 cB031
  have UB := tB31.keep d31 (by omega)
  have UxB := txB31.keep d31 (by omega)
  go_region_held3 (fun w' => w'.cell? ⟨w18.heap.size, 0, none⟩ = some (.slice axB tsB.length kxB) ∧ w'.cell? ⟨w.heap.size + 1 + 1 + 1, 0, none⟩ = some (.slice aB tsB.length kB)) (first | exact ⟨GxB0, GB0⟩ | exact ⟨cell_keep j1 GxB0, cell_keep j1 GB0⟩ | exact ⟨cell_keep j2 (cell_keep j1 GxB0), cell_keep j2 (cell_keep j1 GB0)⟩)
    (first
      | (go_at_call 14; refine (toLin_any false 0 w.heap.size _ tsB w31.drew UB (by omega) (by omega)).mono ?_; rintro e v1 ⟨uo1, rfl, j1, q1⟩; obtain ⟨a1, k1, rfl, la1, ba1⟩ := id q1.shape; have s1 := j1.size)
      | (go_at_call 17; refine (eqLin_same _ _ _ _ _ _ _ _ tsB v1 (UxB.keep j1 (by omega)) q1 (by omega) (Nat.le_refl _)).mono ?_; rintro e v2 ⟨rfl, j2⟩))
  have s2 := j2.size
  obtain ⟨w32, hw32⟩ : ∃ x, x = v2 := ⟨_, rfl⟩
  subst hw32
  have f32 : Below w31.heap.size w31 w32 := (d31.trans (j1.mono (by omega))).trans (j2.mono (by omega))
  have b32 := b31.trans (f32.mono (by omega))
  have z32 := f32.size
  have cS032 := ck f32 cS031
  have cS132 := ck f32 cS131
  have cS232 := ck f32 cS231
  have cS332 := ck f32 cS331
  have cC032 := ck f32 cC031
  have cA032 := ck f32 cA031
  have cB032 := ck f32 cB031
  have cW032 := ck f32 cW031
  have cW132 := ck f32 cW131
  have cW232 := ck f32 cW231
  have cW332 := ck f32 cW331
  have cWV032 := ck f32 cWV031
  have cxS032 := ck f32 cxS031
  have cxS132 := ck f32 cxS131
  have cxS232 := ck f32 cxS231
  have cxS332 := ck f32 cxS331
  have cxC032 := ck f32 cxC031
  have cxA032 := ck f32 cxA031
  have cxB032 := ck f32 cxB031
  have cG032 := ck f32 cG031
  have cG132 := ck f32 cG131
  have cG232 := ck f32 cG231
  have cG332 := ck f32 cG331
  have cGV032 := ck f32 cGV031
  have tS32 := tS31.keep f32 (by omega)
  have tC32 := tC31.keep f32 (by omega)
  have tA32 := tA31.keep f32 (by omega)
  have tB32 := tB31.keep f32 (by omega)
  have tW32 := tW31.keep f32 (by omega)
  have tWV32 := tWV31.keep f32 (by omega)
  have txS32 := txS31.keep f32 (by omega)
  have txC32 := txC31.keep f32 (by omega)
  have txA32 := txA31.keep f32 (by omega)
  have txB32 := txB31.keep f32 (by omega)
  have tG32 := tG31.keep f32 (by omega)
  clear cS031 cS131 cS231 cS331 cC031 cA031 cB031 cW031 cW131 cW231 cW331 cWV031 cxS031 cxS131 cxS231 cxS331 cxC031 cxA031 cxB031 cG031 cG131 cG231 cG331 cGV031 tS31 tC31 tA31 tB31 tW31 tWV31 txS31 txC31 txA31 txB31 tG31 GxB0 GB0 UB UxB
  have lcS032 : w.heap.size < w32.heap.size := blt cS032
  have lcC032 : w.heap.size + 1 < w32.heap.size := blt cC032
  have lcA032 : w.heap.size + 1 + 1 < w32.heap.size := blt cA032
  have lcB032 : w.heap.size + 1 + 1 + 1 < w32.heap.size := blt cB032
  have lcW032 : gAW < w32.heap.size := blt cW032
  have lcWV032 : gBW < w32.heap.size := blt cWV032
  have lcxS032 : w12.heap.size < w32.heap.size := blt cxS032
  have lcxC032 : w14.heap.size < w32.heap.size := blt cxC032
  have lcxA032 : w16.heap.size < w32.heap.size := blt cxA032
  have lcxB032 : w18.heap.size < w32.heap.size := blt cxB032
  have lcG032 : w20.heap.size < w32.heap.size := blt cG032
  have lcGV032 : w20.heap.size + 1 < w32.heap.size := blt cGV032
  go_wp2_with fail
  refine name_call fun w33 hw33 => ?_
  have b33 : Below w.heap.size w w33 := by rw [hw33]; (repeat (with_reducible first | exact bR _ _ | assumption | refine bD ?_ | refine bN ?_ _ | refine bA ?_ _ | refine bS ?_ _))
  have z33 : w32.heap.size + 0 ≤ w33.heap.size := by rw [hw33]; simp
  have e33 : Below w32.heap.size w32 w33 := by rw [hw33]; (repeat (with_reducible first | exact bR _ _ | assumption | refine bD ?_ | refine bN ?_ _ | refine bA ?_ _ | refine bS ?_ _))
  have cS033 := ck e33 cS032
  have cS133 := ck e33 cS132
  have cS233 := ck e33 cS232
  have cS333 := ck e33 cS332
  have cC033 := ck e33 cC032
  have cA033 := ck e33 cA032
  have cB033 := ck e33 cB032
  have cW033 := ck e33 cW032
  have cW133 := ck e33 cW132
  have cW233 := ck e33 cW232
  have cW333 := ck e33 cW332
  have cWV033 := ck e33 cWV032
  have cxS033 := ck e33 cxS032
  have cxS133 := ck e33 cxS132
  have cxS233 := ck e33 cxS232
  have cxS333 := ck e33 cxS332
  have cxC033 := ck e33 cxC032
  have cxA033 := ck e33 cxA032
  have cxB033 := ck e33 cxB032
  have cG033 := ck e33 cG032
  have cG133 := ck e33 cG132
  have cG233 := ck e33 cG232
  have cG333 := ck e33 cG332
  have cGV033 := ck e33 cGV032
  have tS33 := tS32.keep e33 (by omega)
  have tC33 := tC32.keep e33 (by omega)
  have tA33 := tA32.keep e33 (by omega)
  have tB33 := tB32.keep e33 (by omega)
  have tW33 := tW32.keep e33 (by omega)
  have tWV33 := tWV32.keep e33 (by omega)
  have txS33 := txS32.keep e33 (by omega)
  have txC33 := txC32.keep e33 (by omega)
  have txA33 := txA32.keep e33 (by omega)
  have txB33 := txB32.keep e33 (by omega)
  have tG33 := tG32.keep e33 (by omega)
  clear hw33 lcS032 lcC032 lcA032 lcB032 lcW032 lcWV032 lcxS032 lcxC032 lcxA032 lcxB032 lcG032 lcGV032 cS032 cS132 cS232 cS332 cC032 cA032 cB032 cW032 cW132 cW232 cW332 cWV032 cxS032 cxS132 cxS232 cxS332 cxC032 cxA032 cxB032 cG032 cG132 cG232 cG332 cGV032 tS32 tC32 tA32 tB32 tW32 tWV32 txS32 txC32 txA32 txB32 tG32
  refine (markSys_any _ _ _ _ _ _ sS (1) _ txS33 (by omega) (by omega)).mono ?_; rintro e w34 ⟨rfl, f34, q34⟩
  have d34 : Below w.heap.size w33 w34 := f34.below (by omega) (by omega)
  have b34 := b33.trans d34
  have z34 := f34.size
  have cS034 := (f34.cell (b := w.heap.size) (by omega) (by omega) 0).trans cS033
  have cS134 := (f34.cell (b := w.heap.size) (by omega) (by omega) 1).trans cS133
  have cS234 := (f34.cell (b := w.heap.size) (by omega) (by omega) 2).trans cS233
  have cS334 := (f34.cell (b := w.heap.size) (by omega) (by omega) 3).trans cS333
  have cC034 := (f34.cell (b := w.heap.size + 1) (by omega) (by omega) 0).trans cC033
  have cA034 := (f34.cell (b := w.heap.size + 1 + 1) (by omega) (by omega) 0).trans cA033
  have cB034 := (f34.cell (b := w.heap.size + 1 + 1 + 1) (by omega) (by omega) 0).trans cB033
  have cW034 := (f34.cell (b := gAW) (by omega) (by omega) 0).trans cW033
  have cW134 := (f34.cell (b := gAW) (by omega) (by omega) 1).trans cW133
  have cW234 := (f34.cell (b := gAW) (by omega) (by omega) 2).trans cW233
  have cW334 := (f34.cell (b := gAW) (by omega) (by omega) 3).trans cW333
  have cWV034 := (f34.cell (b := gBW) (by omega) (by omega) 0).trans cWV033
  have cxS034 := (f34.cell (b := w12.heap.size) (by omega) (by omega) 0).trans cxS033
  have cxS134 := (f34.cell (b := w12.heap.size) (by omega) (by omega) 1).trans cxS133
  have cxS234 := (f34.cell (b := w12.heap.size) (by omega) (by omega) 2).trans cxS233
  have cxS334 := (f34.cell (b := w12.heap.size) (by omega) (by omega) 3).trans cxS333
  have cxC034 := (f34.cell (b := w14.heap.size) (by omega) (by omega) 0).trans cxC033
  have cxA034 := (f34.cell (b := w16.heap.size) (by omega) (by omega) 0).trans cxA033
  have cxB034 := (f34.cell (b := w18.heap.size) (by omega) (by omega) 0).trans cxB033
  have cG034 := (f34.cell (b := w20.heap.size) (by omega) (by omega) 0).trans cG033
  have cG134 := (f34.cell (b := w20.heap.size) (by omega) (by omega) 1).trans cG133
  have cG234 := (f34.cell (b := w20.heap.size) (by omega) (by omega) 2).trans cG233
  have cG334 := (f34.cell (b := w20.heap.size) (by omega) (by omega) 3).trans cG333
  have cGV034 := (f34.cell (b := w20.heap.size + 1) (by omega) (by omega) 0).trans cGV033
  have tS34 := tS33.keep d34 (Nat.le_refl _)
  have tC34 := tC33.keep d34 (Nat.le_refl _)
  have tA34 := tA33.keep d34 (Nat.le_refl _)
  have tB34 := tB33.keep d34 (Nat.le_refl _)
  have tW34 := tW33.only f34 (by omega) (by omega)
  have tWV34 := tWV33.only f34 (by omega) (by omega)
  have txC34 := txC33.only f34 (by omega) (by omega)
  have txA34 := txA33.only f34 (by omega) (by omega)
  have txB34 := txB33.only f34 (by omega) (by omega)
  have tG34 := tG33.only f34 (by omega) (by omega)
  clear cS033 cS133 cS233 cS333 cC033 cA033 cB033 cW033 cW133 cW233 cW333 cWV033 cxS033 cxS133 cxS233 cxS333 cxC033 cxA033 cxB033 cG033 cG133 cG233 cG333 cGV033 tS33 tC33 tA33 tB33 tW33 tWV33 txS33 txC33 txA33 txB33 tG33
  have lcS034 : w.heap.size < w34.heap.size := blt cS034
  have lcC034 : w.heap.size + 1 < w34.heap.size := blt cC034
  have lcA034 : w.heap.size + 1 + 1 < w34.heap.size := blt cA034
  have lcB034 : w.heap.size + 1 + 1 + 1 < w34.heap.size := blt cB034
  have lcW034 : gAW < w34.heap.size := blt cW034
  have lcWV034 : gBW < w34.heap.size := blt cWV034
  have lcxS034 : w12.heap.size < w34.heap.size := blt cxS034
  have lcxC034 : w14.heap.size < w34.heap.size := blt cxC034
  have lcxA034 : w16.heap.size < w34.heap.size := blt cxA034
  have lcxB034 : w18.heap.size < w34.heap.size := blt cxB034
  have lcG034 : w20.heap.size < w34.heap.size := blt cG034
  have lcGV034 : w20.heap.size + 1 < w34.heap.size := blt cGV034
  go_wp2_with fail
  refine name_call fun w35 hw35 => ?_
  have b35 : Below w.heap.size w w35 := by rw [hw35]; (repeat (with_reducible first | exact bR _ _ | assumption | refine bD ?_ | refine bN ?_ _ | refine bA ?_ _ | refine bS ?_ _))
  have z35 : w34.heap.size + 0 ≤ w35.heap.size := by rw [hw35]; simp
  have e35 : Below w34.heap.size w34 w35 := by rw [hw35]; (repeat (with_reducible first | exact bR _ _ | assumption | refine bD ?_ | refine bN ?_ _ | refine bA ?_ _ | refine bS ?_ _))
  have cS035 := ck e35 cS034
  have cS135 := ck e35 cS134
  have cS235 := ck e35 cS234
  have cS335 := ck e35 cS334
  have cC035 := ck e35 cC034
  have cA035 := ck e35 cA034
  have cB035 := ck e35 cB034
  have cW035 := ck e35 cW034
  have cW135 := ck e35 cW134
  have cW235 := ck e35 cW234
  have cW335 := ck e35 cW334
  have cWV035 := ck e35 cWV034
  have cxS035 := ck e35 cxS034
  have cxS135 := ck e35 cxS134
  have cxS235 := ck e35 cxS234
  have cxS335 := ck e35 cxS334
  have cxC035 := ck e35 cxC034
  have cxA035 := ck e35 cxA034
  have cxB035 := ck e35 cxB034
  have cG035 := ck e35 cG034
  have cG135 := ck e35 cG134
  have cG235 := ck e35 cG234
  have cG335 := ck e35 cG334
  have cGV035 := ck e35 cGV034
  have tS35 := tS34.keep e35 (by omega)
  have tC35 := tC34.keep e35 (by omega)
  have tA35 := tA34.keep e35 (by omega)
  have tB35 := tB34.keep e35 (by omega)
  have tW35 := tW34.keep e35 (by omega)
  have tWV35 := tWV34.keep e35 (by omega)
  have txS35 := q34.keep e35 (by omega)
  have txC35 := txC34.keep e35 (by omega)
  have txA35 := txA34.keep e35 (by omega)
  have txB35 := txB34.keep e35 (by omega)
  have tG35 := tG34.keep e35 (by omega)
  clear hw35 lcS034 lcC034 lcA034 lcB034 lcW034 lcWV034 lcxS034 lcxC034 lcxA034 lcxB034 lcG034 lcGV034 cS034 cS134 cS234 cS334 cC034 cA034 cB034 cW034 cW134 cW234 cW334 cWV034 cxS034 cxS134 cxS234 cxS334 cxC034 cxA034 cxB034 cG034 cG134 cG234 cG334 cGV034 tS34 tC34 tA34 tB34 tW34 tWV34 txC34 txA34 txB34 tG34
  refine (markLin_any _ _ _ tsC (1 + totS sS) _ txC35 (by omega) (by omega) (by omega)).mono ?_; rintro e w36 ⟨rfl, f36, q36⟩
  have d36 : Below w.heap.size w35 w36 := f36.below (by omega) (by omega)
  have b36 := b35.trans d36
  have z36 := f36.size
  have cS036 := (f36.cell (b := w.heap.size) (by omega) (by omega) 0).trans cS035
  have cS136 := (f36.cell (b := w.heap.size) (by omega) (by omega) 1).trans cS135
  have cS236 := (f36.cell (b := w.heap.size) (by omega) (by omega) 2).trans cS235
  have cS336 := (f36.cell (b := w.heap.size) (by omega) (by omega) 3).trans cS335
  have cC036 := (f36.cell (b := w.heap.size + 1) (by omega) (by omega) 0).trans cC035
  have cA036 := (f36.cell (b := w.heap.size + 1 + 1) (by omega) (by omega) 0).trans cA035
  have cB036 := (f36.cell (b := w.heap.size + 1 + 1 + 1) (by omega) (by omega) 0).trans cB035
  have cW036 := (f36.cell (b := gAW) (by omega) (by omega) 0).trans cW035
  have cW136 := (f36.cell (b := gAW) (by omega) (by omega) 1).trans cW135
  have cW236 := (f36.cell (b := gAW) (by omega) (by omega) 2).trans cW235
  have cW336 := (f36.cell (b := gAW) (by omega) (by omega) 3).trans cW335
  have cWV036 := (f36.cell (b := gBW) (by omega) (by omega) 0).trans cWV035
  have cxS036 := (f36.cell (b := w12.heap.size) (by omega) (by omega) 0).trans cxS035
  have cxS136 := (f36.cell (b := w12.heap.size) (by omega) (by omega) 1).trans cxS135
  have cxS236 := (f36.cell (b := w12.heap.size) (by omega) (by omega) 2).trans cxS235
  have cxS336 := (f36.cell (b := w12.heap.size) (by omega) (by omega) 3).trans cxS335
  have cxC036 := (f36.cell (b := w14.heap.size) (by omega) (by omega) 0).trans cxC035
  have cxA036 := (f36.cell (b := w16.heap.size) (by omega) (by omega) 0).trans cxA035
  have cxB036 := (f36.cell (b := w18.heap.size) (by omega) (by omega) 0).trans cxB035
  have cG036 := (f36.cell (b := w20.heap.size) (by omega) (by omega) 0).trans cG035
  have cG136 := (f36.cell (b := w20.heap.size) (by omega) (by omega) 1).trans cG135
  have cG236 := (f36.cell (b := w20.heap.size) (by omega) (by omega) 2).trans cG235
  have cG336 := (f36.cell (b := w20.heap.size) (by omega) (by omega) 3).trans cG335
  have cGV036 := (f36.cell (b := w20.heap.size + 1) (by omega) (by omega) 0).trans cGV035
  have tS36 := tS35.keep d36 (Nat.le_refl _)
  have tC36 := tC35.keep d36 (Nat.le_refl _)
  have tA36 := tA35.keep d36 (Nat.le_refl _)
  have tB36 := tB35.keep d36 (Nat.le_refl _)
  have tW36 := tW35.only f36 (by omega) (by omega)
  have tWV36 := tWV35.only f36 (by omega) (by omega)
  have txS36 := txS35.only f36 (by omega) (by omega)
  have txA36 := txA35.only f36 (by omega) (by omega)
  have txB36 := txB35.only f36 (by omega) (by omega)
  have tG36 := tG35.only f36 (by omega) (by omega)
  clear cS035 cS135 cS235 cS335 cC035 cA035 cB035 cW035 cW135 cW235 cW335 cWV035 cxS035 cxS135 cxS235 cxS335 cxC035 cxA035 cxB035 cG035 cG135 cG235 cG335 cGV035 tS35 tC35 tA35 tB35 tW35 tWV35 txS35 txC35 txA35 txB35 tG35
  have lcS036 : w.heap.size < w36.heap.size := blt cS036
  have lcC036 : w.heap.size + 1 < w36.heap.size := blt cC036
  have lcA036 : w.heap.size + 1 + 1 < w36.heap.size := blt cA036
  have lcB036 : w.heap.size + 1 + 1 + 1 < w36.heap.size := blt cB036
  have lcW036 : gAW < w36.heap.size := blt cW036
  have lcWV036 : gBW < w36.heap.size := blt cWV036
  have lcxS036 : w12.heap.size < w36.heap.size := blt cxS036
  have lcxC036 : w14.heap.size < w36.heap.size := blt cxC036
  have lcxA036 : w16.heap.size < w36.heap.size := blt cxA036
  have lcxB036 : w18.heap.size < w36.heap.size := blt cxB036
  have lcG036 : w20.heap.size < w36.heap.size := blt cG036
  have lcGV036 : w20.heap.size + 1 < w36.heap.size := blt cGV036
  go_wp2_with fail
  refine name_call fun w37 hw37 => ?_
  have b37 : Below w.heap.size w w37 := by rw [hw37]; (repeat (with_reducible first | exact bR _ _ | assumption | refine bD ?_ | refine bN ?_ _ | refine bA ?_ _ | refine bS ?_ _))
  have z37 : w36.heap.size + 0 ≤ w37.heap.size := by rw [hw37]; simp
  have e37 : Below w36.heap.size w36 w37 := by rw [hw37]; (repeat (with_reducible first | exact bR _ _ | assumption | refine bD ?_ | refine bN ?_ _ | refine bA ?_ _ | refine bS ?_ _))
  have cS037 := ck e37 cS036
  have cS137 := ck e37 cS136
  have cS237 := ck e37 cS236
  have cS337 := ck e37 cS336
  have cC037 := ck e37 cC036
  have cA037 := ck e37 cA036
  have cB037 := ck e37 cB036
  have cW037 := ck e37 cW036
  have cW137 := ck e37 cW136
  have cW237 := ck e37 cW236
  have cW337 := ck e37 cW336
  have cWV037 := ck e37 cWV036
  have cxS037 := ck e37 cxS036
  have cxS137 := ck e37 cxS136
  have cxS237 := ck e37 cxS236
  have cxS337 := ck e37 cxS336
  have cxC037 := ck e37 cxC036
  have cxA037 := ck e37 cxA036
  have cxB037 := ck e37 cxB036
  have cG037 := ck e37 cG036
  have cG137 := ck e37 cG136
  have cG237 := ck e37 cG236
  have cG337 := ck e37 cG336
  have cGV037 := ck e37 cGV036
  have tS37 := tS36.keep e37 (by omega)
  have tC37 := tC36.keep e37 (by omega)
  have tA37 := tA36.keep e37 (by omega)
  have tB37 := tB36.keep e37 (by omega)
  have tW37 := tW36.keep e37 (by omega)
  have tWV37 := tWV36.keep e37 (by omega)
  have txS37 := txS36.keep e37 (by omega)
  have txC37 := q36.keep e37 (by omega)
  have txA37 := txA36.keep e37 (by omega)
  have txB37 := txB36.keep e37 (by omega)
  have tG37 := tG36.keep e37 (by omega)
  clear hw37 lcS036 lcC036 lcA036 lcB036 lcW036 lcWV036 lcxS036 lcxC036 lcxA036 lcxB036 lcG036 lcGV036 cS036 cS136 cS236 cS336 cC036 cA036 cB036 cW036 cW136 cW236 cW336 cWV036 cxS036 cxS136 cxS236 cxS336 cxC036 cxA036 cxB036 cG036 cG136 cG236 cG336 cGV036 tS36 tC36 tA36 tB36 tW36 tWV36 txS36 txA36 txB36 tG36
  refine (markLin_any _ _ _ tsA (1 + totS sS + 2 * tsC.length) _ txA37 (by omega) (by omega) (by omega)).mono ?_; rintro e w38 ⟨rfl, f38, q38⟩
  have d38 : Below w.heap.size w37 w38 := f38.below (by omega) (by omega)
  have b38 := b37.trans d38
  have z38 := f38.size
  have cS038 := (f38.cell (b := w.heap.size) (by omega) (by omega) 0).trans cS037
  have cS138 := (f38.cell (b := w.heap.size) (by omega) (by omega) 1).trans cS137
  have cS238 := (f38.cell (b := w.heap.size) (by omega) (by omega) 2).trans cS237
  have cS338 := (f38.cell (b := w.heap.size) (by omega) (by omega) 3).trans cS337
  have cC038 := (f38.cell (b := w.heap.size + 1) (by omega) (by omega) 0).trans cC037
  have cA038 := (f38.cell (b := w.heap.size + 1 + 1) (by omega) (by omega) 0).trans cA037
  have cB038 := (f38.cell (b := w.heap.size + 1 + 1 + 1) (by omega) (by omega) 0).trans cB037
  have cW038 := (f38.cell (b := gAW) (by omega) (by omega) 0).trans cW037
  have cW138 := (f38.cell (b := gAW) (by omega) (by omega) 1).trans cW137
  have cW238 := (f38.cell (b := gAW) (by omega) (by omega) 2).trans cW237
  have cW338 := (f38.cell (b := gAW) (by omega) (by omega) 3).trans cW337
  have cWV038 := (f38.cell (b := gBW) (by omega) (by omega) 0).trans cWV037
  have cxS038 := (f38.cell (b := w12.heap.size) (by omega) (by omega) 0).trans cxS037
  have cxS138 := (f38.cell (b := w12.heap.size) (by omega) (by omega) 1).trans cxS137
  have cxS238 := (f38.cell (b := w12.heap.size) (by omega) (by omega) 2).trans cxS237
  have cxS338 := (f38.cell (b := w12.heap.size) (by omega) (by omega) 3).trans cxS337
  have cxC038 := (f38.cell (b := w14.heap.size) (by omega) (by omega) 0).trans cxC037
  have cxA038 := (f38.cell (b := w16.heap.size) (by omega) (by omega) 0).trans cxA037
  have cxB038 := (f38.cell (b := w18.heap.size) (by omega) (by omega) 0).trans cxB037
  have cG038 := (f38.cell (b := w20.heap.size) (by omega) (by omega) 0).trans cG037
  have cG138 := (f38.cell (b := w20.heap.size) (by omega) (by omega) 1).trans cG137
  have cG238 := (f38.cell (b := w20.heap.size) (by omega) (by omega) 2).trans cG237
  have cG338 := (f38.cell (b := w20.heap.size) (by omega) (by omega) 3).trans cG337
  have cGV038 := (f38.cell (b := w20.heap.size + 1) (by omega) (by omega) 0).trans cGV037
  have tS38 := tS37.keep d38 (Nat.le_refl _)
  have tC38 := tC37.keep d38 (Nat.le_refl _)
  have tA38 := tA37.keep d38 (Nat.le_refl _)
  have tB38 := tB37.keep d38 (Nat.le_refl _)
  have tW38 := tW37.only f38 (by omega) (by omega)
  have tWV38 := tWV37.only f38 (by omega) (by omega)
  have txS38 := txS37.only f38 (by omega) (by omega)
  have txC38 := txC37.only f38 (by omega) (by omega)
  have txB38 := txB37.only f38 (by omega) (by omega)
  have tG38 := tG37.only f38 (by omega) (by omega)
  clear cS037 cS137 cS237 cS337 cC037 cA037 cB037 cW037 cW137 cW237 cW337 cWV037 cxS037 cxS137 cxS237 cxS337 cxC037 cxA037 cxB037 cG037 cG137 cG237 cG337 cGV037 tS37 tC37 tA37 tB37 tW37 tWV37 txS37 txC37 txA37 txB37 tG37
  have lcS038 : w.heap.size < w38.heap.size := blt cS038
  have lcC038 : w.heap.size + 1 < w38.heap.size := blt cC038
  have lcA038 : w.heap.size + 1 + 1 < w38.heap.size := blt cA038
  have lcB038 : w.heap.size + 1 + 1 + 1 < w38.heap.size := blt cB038
  have lcW038 : gAW < w38.heap.size := blt cW038
  have lcWV038 : gBW < w38.heap.size := blt cWV038
  have lcxS038 : w12.heap.size < w38.heap.size := blt cxS038
  have lcxC038 : w14.heap.size < w38.heap.size := blt cxC038
  have lcxA038 : w16.heap.size < w38.heap.size := blt cxA038
  have lcxB038 : w18.heap.size < w38.heap.size := blt cxB038
  have lcG038 : w20.heap.size < w38.heap.size := blt cG038
  have lcGV038 : w20.heap.size + 1 < w38.heap.size := blt cGV038
  go_wp2_with fail
  refine name_call fun w39 hw39 => ?_
  have b39 : Below w.heap.size w w39 := by rw [hw39]; (repeat (with_reducible first | exact bR _ _ | assumption | refine bD ?_ | refine bN ?_ _ | refine bA ?_ _ | refine bS ?_ _))
  have z39 : w38.heap.size + 0 ≤ w39.heap.size := by rw [hw39]; simp
  have e39 : Below w38.heap.size w38 w39 := by rw [hw39]; (repeat (with_reducible first | exact bR _ _ | assumption | refine bD ?_ | refine bN ?_ _ | refine bA ?_ _ | refine bS ?_ _))
  have cS039 := ck e39 cS038
  have cS139 := ck e39 cS138
  have cS239 := ck e39 cS238
  have cS339 := ck e39 cS338
  have cC039 := ck e39 cC038
  have cA039 := ck e39 cA038
  have cB039 := ck e39 cB038
  have cW039 := ck e39 cW038
  have cW139 := ck e39 cW138
  have cW239 := ck e39 cW238
  have cW339 := ck e39 cW338
  have cWV039 := ck e39 cWV038
  have cxS039 := ck e39 cxS038
  have cxS139 := ck e39 cxS138
  have cxS239 := ck e39 cxS238
  have cxS339 := ck e39 cxS338
  have cxC039 := ck e39 cxC038
  have cxA039 := ck e39 cxA038
  have cxB039 := ck e39 cxB038
  have cG039 := ck e39 cG038
  have cG139 := ck e39 cG138
  have cG239 := ck e39 cG238
  have cG339 := ck e39 cG338
  have cGV039 := ck e39 cGV038
  have tS39 := tS38.keep e39 (by omega)
  have tC39 := tC38.keep e39 (by omega)
  have tA39 := tA38.keep e39 (by omega)
  have tB39 := tB38.keep e39 (by omega)
  have tW39 := tW38.keep e39 (by omega)
  have tWV39 := tWV38.keep e39 (by omega)
  have txS39 := txS38.keep e39 (by omega)
  have txC39 := txC38.keep e39 (by omega)
  have txA39 := q38.keep e39 (by omega)
  have txB39 := txB38.keep e39 (by omega)
  have tG39 := tG38.keep e39 (by omega)
  clear hw39 lcS038 lcC038 lcA038 lcB038 lcW038 lcWV038 lcxS038 lcxC038 lcxA038 lcxB038 lcG038 lcGV038 cS038 cS138 cS238 cS338 cC038 cA038 cB038 cW038 cW138 cW238 cW338 cWV038 cxS038 cxS138 cxS238 cxS338 cxC038 cxA038 cxB038 cG038 cG138 cG238 cG338 cGV038 tS38 tC38 tA38 tB38 tW38 tWV38 txS38 txC38 txB38 tG38
  refine (markLin_any _ _ _ tsB (1 + totS sS + 2 * tsC.length + 2 * tsA.length) _ txB39 (by omega) (by omega) (by omega)).mono ?_; rintro e w40 ⟨rfl, f40, q40⟩
  have d40 : Below w.heap.size w39 w40 := f40.below (by omega) (by omega)
  have b40 := b39.trans d40
  have z40 := f40.size
  have cS040 := (f40.cell (b := w.heap.size) (by omega) (by omega) 0).trans cS039
  have cS140 := (f40.cell (b := w.heap.size) (by omega) (by omega) 1).trans cS139
  have cS240 := (f40.cell (b := w.heap.size) (by omega) (by omega) 2).trans cS239
  have cS340 := (f40.cell (b := w.heap.size) (by omega) (by omega) 3).trans cS339
  have cC040 := (f40.cell (b := w.heap.size + 1) (by omega) (by omega) 0).trans cC039
  have cA040 := (f40.cell (b := w.heap.size + 1 + 1) (by omega) (by omega) 0).trans cA039
  have cB040 := (f40.cell (b := w.heap.size + 1 + 1 + 1) (by omega) (by omega) 0).trans cB039
  have cW040 := (f40.cell (b := gAW) (by omega) (by omega) 0).trans cW039
  have cW140 := (f40.cell (b := gAW) (by omega) (by omega) 1).trans cW139
  have cW240 := (f40.cell (b := gAW) (by omega) (by omega) 2).trans cW239
  have cW340 := (f40.cell (b := gAW) (by omega) (by omega) 3).trans cW339
  have cWV040 := (f40.cell (b := gBW) (by omega) (by omega) 0).trans cWV039
  have cxS040 := (f40.cell (b := w12.heap.size) (by omega) (by omega) 0).trans cxS039
  have cxS140 := (f40.cell (b := w12.heap.size) (by omega) (by omega) 1).trans cxS139
  have cxS240 := (f40.cell (b := w12.heap.size) (by omega) (by omega) 2).trans cxS239
  have cxS340 := (f40.cell (b := w12.heap.size) (by omega) (by omega) 3).trans cxS339
  have cxC040 := (f40.cell (b := w14.heap.size) (by omega) (by omega) 0).trans cxC039
  have cxA040 := (f40.cell (b := w16.heap.size) (by omega) (by omega) 0).trans cxA039
  have cxB040 := (f40.cell (b := w18.heap.size) (by omega) (by omega) 0).trans cxB039
  have cG040 := (f40.cell (b := w20.heap.size) (by omega) (by omega) 0).trans cG039
  have cG140 := (f40.cell (b := w20.heap.size) (by omega) (by omega) 1).trans cG139
  have cG240 := (f40.cell (b := w20.heap.size) (by omega) (by omega) 2).trans cG239
  have cG340 := (f40.cell (b := w20.heap.size) (by omega) (by omega) 3).trans cG339
  have cGV040 := (f40.cell (b := w20.heap.size + 1) (by omega) (by omega) 0).trans cGV039
  have tS40 := tS39.keep d40 (Nat.le_refl _)
  have tC40 := tC39.keep d40 (Nat.le_refl _)
  have tA40 := tA39.keep d40 (Nat.le_refl _)
  have tB40 := tB39.keep d40 (Nat.le_refl _)
  have tW40 := tW39.only f40 (by omega) (by omega)
  have tWV40 := tWV39.only f40 (by omega) (by omega)
  have txS40 := txS39.only f40 (by omega) (by omega)
  have txC40 := txC39.only f40 (by omega) (by omega)
  have txA40 := txA39.only f40 (by omega) (by omega)
  have tG40 := tG39.only f40 (by omega) (by omega)
  clear cS039 cS139 cS239 cS339 cC039 cA039 cB039 cW039 cW139 cW239 cW339 cWV039 cxS039 cxS139 cxS239 cxS339 cxC039 cxA039 cxB039 cG039 cG139 cG239 cG339 cGV039 tS39 tC39 tA39 tB39 tW39 tWV39 txS39 txC39 txA39 txB39 tG39
  have lcS040 : w.heap.size < w40.heap.size := blt cS040
  have lcC040 : w.heap.size + 1 < w40.heap.size := blt cC040
  have lcA040 : w.heap.size + 1 + 1 < w40.heap.size := blt cA040
  have lcB040 : w.heap.size + 1 + 1 + 1 < w40.heap.size := blt cB040
  have lcW040 : gAW < w40.heap.size := blt cW040
  have lcWV040 : gBW < w40.heap.size := blt cWV040
  have lcxS040 : w12.heap.size < w40.heap.size := blt cxS040
  have lcxC040 : w14.heap.size < w40.heap.size := blt cxC040
  have lcxA040 : w16.heap.size < w40.heap.size := blt cxA040
  have lcxB040 : w18.heap.size < w40.heap.size := blt cxB040
  have lcG040 : w20.heap.size < w40.heap.size := blt cG040
  have lcGV040 : w20.heap.size + 1 < w40.heap.size := blt cGV040
  go_wp2_with fail
  refine name_call fun w41 hw41 => ?_
  have b41 : Below w.heap.size w w41 := by rw [hw41]; (repeat (with_reducible first | exact bR _ _ | assumption | refine bD ?_ | refine bN ?_ _ | refine bA ?_ _ | refine bS ?_ _))
  have z41 : w40.heap.size + 0 ≤ w41.heap.size := by rw [hw41]; simp
  have e41 : Below w40.heap.size w40 w41 := by rw [hw41]; (repeat (with_reducible first | exact bR _ _ | assumption | refine bD ?_ | refine bN ?_ _ | refine bA ?_ _ | refine bS ?_ _))
  have cS041 := ck e41 cS040
  have cS141 := ck e41 cS140
  have cS241 := ck e41 cS240
  have cS341 := ck e41 cS340
  have cC041 := ck e41 cC040
  have cA041 := ck e41 cA040
  have cB041 := ck e41 cB040
  have cW041 := ck e41 cW040
  have cW141 := ck e41 cW140
  have cW241 := ck e41 cW240
  have cW341 := ck e41 cW340
  have cWV041 := ck e41 cWV040
  have cxS041 := ck e41 cxS040
  have cxS141 := ck e41 cxS140
  have cxS241 := ck e41 cxS240
  have cxS341 := ck e41 cxS340
  have cxC041 := ck e41 cxC040
  have cxA041 := ck e41 cxA040
  have cxB041 := ck e41 cxB040
  have cG041 := ck e41 cG040
  have cG141 := ck e41 cG140
  have cG241 := ck e41 cG240
  have cG341 := ck e41 cG340
  have cGV041 := ck e41 cGV040
  have tS41 := tS40.keep e41 (by omega)
  have tC41 := tC40.keep e41 (by omega)
  have tA41 := tA40.keep e41 (by omega)
  have tB41 := tB40.keep e41 (by omega)
  have tW41 := tW40.keep e41 (by omega)
  have tWV41 := tWV40.keep e41 (by omega)
  have txS41 := txS40.keep e41 (by omega)
  have txC41 := txC40.keep e41 (by omega)
  have txA41 := txA40.keep e41 (by omega)
  have txB41 := q40.keep e41 (by omega)
  have tG41 := tG40.keep e41 (by omega)
  clear hw41 lcS040 lcC040 lcA040 lcB040 lcW040 lcWV040 lcxS040 lcxC040 lcxA040 lcxB040 lcG040 lcGV040 cS040 cS140 cS240 cS340 cC040 cA040 cB040 cW040 cW140 cW240 cW340 cWV040 cxS040 cxS140 cxS240 cxS340 cxC040 cxA040 cxB040 cG040 cG140 cG240 cG340 cGV040 tS40 tC40 tA40 tB40 tW40 tWV40 txS40 txC40 txA40 tG40
  refine (eqSys_same _ _ _ _ _ _ _ _ _ _ _ _ _ _ r _ (tG41.sys) (tW41) (by omega) (by omega)).mono ?_; rintro e w42 ⟨rfl, f42⟩
  have b42 := b41.trans (f42.mono (by omega))
  have z42 := f42.size
  have cS042 := ck f42 cS041
  have cS142 := ck f42 cS141
  have cS242 := ck f42 cS241
  have cS342 := ck f42 cS341
  have cC042 := ck f42 cC041
  have cA042 := ck f42 cA041
  have cB042 := ck f42 cB041
  have cW042 := ck f42 cW041
  have cW142 := ck f42 cW141
  have cW242 := ck f42 cW241
  have cW342 := ck f42 cW341
  have cWV042 := ck f42 cWV041
  have cxS042 := ck f42 cxS041
  have cxS142 := ck f42 cxS141
  have cxS242 := ck f42 cxS241
  have cxS342 := ck f42 cxS341
  have cxC042 := ck f42 cxC041
  have cxA042 := ck f42 cxA041
  have cxB042 := ck f42 cxB041
  have cG042 := ck f42 cG041
  have cG142 := ck f42 cG141
  have cG242 := ck f42 cG241
  have cG342 := ck f42 cG341
  have cGV042 := ck f42 cGV041
  have tS42 := tS41.keep f42 (by omega)
  have tC42 := tC41.keep f42 (by omega)
  have tA42 := tA41.keep f42 (by omega)
  have tB42 := tB41.keep f42 (by omega)
  have tW42 := tW41.keep f42 (by omega)
  have tWV42 := tWV41.keep f42 (by omega)
  have txS42 := txS41.keep f42 (by omega)
  have txC42 := txC41.keep f42 (by omega)
  have txA42 := txA41.keep f42 (by omega)
  have txB42 := txB41.keep f42 (by omega)
  have tG42 := tG41.keep f42 (by omega)
  clear cS041 cS141 cS241 cS341 cC041 cA041 cB041 cW041 cW141 cW241 cW341 cWV041 cxS041 cxS141 cxS241 cxS341 cxC041 cxA041 cxB041 cG041 cG141 cG241 cG341 cGV041 tS41 tC41 tA41 tB41 tW41 tWV41 txS41 txC41 txA41 txB41 tG41
  have lcS042 : w.heap.size < w42.heap.size := blt cS042
  have lcC042 : w.heap.size + 1 < w42.heap.size := blt cC042
  have lcA042 : w.heap.size + 1 + 1 < w42.heap.size := blt cA042
  have lcB042 : w.heap.size + 1 + 1 + 1 < w42.heap.size := blt cB042
  have lcW042 : gAW < w42.heap.size := blt cW042
  have lcWV042 : gBW < w42.heap.size := blt cWV042
  have lcxS042 : w12.heap.size < w42.heap.size := blt cxS042
  have lcxC042 : w14.heap.size < w42.heap.size := blt cxC042
  have lcxA042 : w16.heap.size < w42.heap.size := blt cxA042
  have lcxB042 : w18.heap.size < w42.heap.size := blt cxB042
  have lcG042 : w20.heap.size < w42.heap.size := blt cG042
  have lcGV042 : w20.heap.size + 1 < w42.heap.size := blt cGV042
  go_wp2_with fail
  refine name_call fun w43 hw43 => ?_
  have b43 : Below w.heap.size w w43 := by rw [hw43]; (repeat (with_reducible first | exact bR _ _ | assumption | refine bD ?_ | refine bN ?_ _ | refine bA ?_ _ | refine bS ?_ _))
  have z43 : w42.heap.size + 0 ≤ w43.heap.size := by rw [hw43]; simp
  have e43 : Below w42.heap.size w42 w43 := by rw [hw43]; (repeat (with_reducible first | exact bR _ _ | assumption | refine bD ?_ | refine bN ?_ _ | refine bA ?_ _ | refine bS ?_ _))
  have cS043 := ck e43 cS042
  have cS143 := ck e43 cS142
  have cS243 := ck e43 cS242
  have cS343 := ck e43 cS342
  have cC043 := ck e43 cC042
  have cA043 := ck e43 cA042
  have cB043 := ck e43 cB042
  have cW043 := ck e43 cW042
  have cW143 := ck e43 cW142
  have cW243 := ck e43 cW242
  have cW343 := ck e43 cW342
  have cWV043 := ck e43 cWV042
  have cxS043 := ck e43 cxS042
  have cxS143 := ck e43 cxS142
  have cxS243 := ck e43 cxS242
  have cxS343 := ck e43 cxS342
  have cxC043 := ck e43 cxC042
  have cxA043 := ck e43 cxA042
  have cxB043 := ck e43 cxB042
  have cG043 := ck e43 cG042
  have cG143 := ck e43 cG142
  have cG243 := ck e43 cG242
  have cG343 := ck e43 cG342
  have cGV043 := ck e43 cGV042
  have tS43 := tS42.keep e43 (by omega)
  have tC43 := tC42.keep e43 (by omega)
  have tA43 := tA42.keep e43 (by omega)
  have tB43 := tB42.keep e43 (by omega)
  have tW43 := tW42.keep e43 (by omega)
  have tWV43 := tWV42.keep e43 (by omega)
  have txS43 := txS42.keep e43 (by omega)
  have txC43 := txC42.keep e43 (by omega)
  have txA43 := txA42.keep e43 (by omega)
  have txB43 := txB42.keep e43 (by omega)
  have tG43 := tG42.keep e43 (by omega)
  clear hw43 lcS042 lcC042 lcA042 lcB042 lcW042 lcWV042 lcxS042 lcxC042 lcxA042 lcxB042 lcG042 lcGV042 cS042 cS142 cS242 cS342 cC042 cA042 cB042 cW042 cW142 cW242 cW342 cWV042 cxS042 cxS142 cxS242 cxS342 cxC042 cxA042 cxB042 cG042 cG142 cG242 cG342 cGV042 tS42 tC42 tA42 tB42 tW42 tWV42 txS42 txC42 txA42 txB42 tG42
  refine (eqLin_same _ _ _ _ _ _ _ _ v _ (tG43.snd) (tWV43) (by omega) (by omega)).mono ?_; rintro e w44 ⟨rfl, f44⟩
  have b44 := b43.trans (f44.mono (by omega))
  have z44 := f44.size
  have cS044 := ck f44 cS043
  have cS144 := ck f44 cS143
  have cS244 := ck f44 cS243
  have cS344 := ck f44 cS343
  have cC044 := ck f44 cC043
  have cA044 := ck f44 cA043
  have cB044 := ck f44 cB043
  have cW044 := ck f44 cW043
  have cW144 := ck f44 cW143
  have cW244 := ck f44 cW243
  have cW344 := ck f44 cW343
  have cWV044 := ck f44 cWV043
  have cxS044 := ck f44 cxS043
  have cxS144 := ck f44 cxS143
  have cxS244 := ck f44 cxS243
  have cxS344 := ck f44 cxS343
  have cxC044 := ck f44 cxC043
  have cxA044 := ck f44 cxA043
  have cxB044 := ck f44 cxB043
  have cG044 := ck f44 cG043
  have cG144 := ck f44 cG143
  have cG244 := ck f44 cG243
  have cG344 := ck f44 cG343
  have cGV044 := ck f44 cGV043
  have tS44 := tS43.keep f44 (by omega)
  have tC44 := tC43.keep f44 (by omega)
  have tA44 := tA43.keep f44 (by omega)
  have tB44 := tB43.keep f44 (by omega)
  have tW44 := tW43.keep f44 (by omega)
  have tWV44 := tWV43.keep f44 (by omega)
  have txS44 := txS43.keep f44 (by omega)
  have txC44 := txC43.keep f44 (by omega)
  have txA44 := txA43.keep f44 (by omega)
  have txB44 := txB43.keep f44 (by omega)
  have tG44 := tG43.keep f44 (by omega)
  clear cS043 cS143 cS243 cS343 cC043 cA043 cB043 cW043 cW143 cW243 cW343 cWV043 cxS043 cxS143 cxS243 cxS343 cxC043 cxA043 cxB043 cG043 cG143 cG243 cG343 cGV043 tS43 tC43 tA43 tB43 tW43 tWV43 txS43 txC43 txA43 txB43 tG43
  clear txS44
  clear txC44
  clear txA44
  clear txB44
  clear cxS044
  clear cxS144
  clear cxS244
  clear cxS344
  clear cxC044
  clear cxA044
  clear cxB044
  have lcS044 : w.heap.size < w44.heap.size := blt cS044
  have lcC044 : w.heap.size + 1 < w44.heap.size := blt cC044
  have lcA044 : w.heap.size + 1 + 1 < w44.heap.size := blt cA044
  have lcB044 : w.heap.size + 1 + 1 + 1 < w44.heap.size := blt cB044
  have lcW044 : gAW < w44.heap.size := blt cW044
  have lcWV044 : gBW < w44.heap.size := blt cWV044
  have lcG044 : w20.heap.size < w44.heap.size := blt cG044
  have lcGV044 : w20.heap.size + 1 < w44.heap.size := blt cGV044
  go_wp2_with fail
  refine name_call fun w45 hw45 => ?_
  have b45 : Below w.heap.size w w45 := by rw [hw45]; (repeat (with_reducible first | exact bR _ _ | assumption | refine bD ?_ | refine bN ?_ _ | refine bA ?_ _ | refine bS ?_ _))
  have z45 : w44.heap.size + 0 ≤ w45.heap.size := by rw [hw45]; simp
  have e45 : Below w44.heap.size w44 w45 := by rw [hw45]; (repeat (with_reducible first | exact bR _ _ | assumption | refine bD ?_ | refine bN ?_ _ | refine bA ?_ _ | refine bS ?_ _))
  have cS045 := ck e45 cS044
  have cS145 := ck e45 cS144
  have cS245 := ck e45 cS244
  have cS345 := ck e45 cS344
  have cC045 := ck e45 cC044
  have cA045 := ck e45 cA044
  have cB045 := ck e45 cB044
  have cW045 := ck e45 cW044
  have cW145 := ck e45 cW144
  have cW245 := ck e45 cW244
  have cW345 := ck e45 cW344
  have cWV045 := ck e45 cWV044
  have cG045 := ck e45 cG044
  have cG145 := ck e45 cG144
  have cG245 := ck e45 cG244
  have cG345 := ck e45 cG344
  have cGV045 := ck e45 cGV044
  have tS45 := tS44.keep e45 (by omega)
  have tC45 := tC44.keep e45 (by omega)
  have tA45 := tA44.keep e45 (by omega)
  have tB45 := tB44.keep e45 (by omega)
  have tW45 := tW44.keep e45 (by omega)
  have tWV45 := tWV44.keep e45 (by omega)
  have tG45 := tG44.keep e45 (by omega)
  clear hw45 lcS044 lcC044 lcA044 lcB044 lcW044 lcWV044 lcG044 lcGV044 cS044 cS144 cS244 cS344 cC044 cA044 cB044 cW044 cW144 cW244 cW344 cWV044 cG044 cG144 cG244 cG344 cGV044 tS44 tC44 tA44 tB44 tW44 tWV44 tG44
  refine (AnsSL.mark1 1 tG45 (by omega)).mono ?_; rintro e w46 ⟨rfl, f46, q46⟩
  have d46 : Below w.heap.size w45 w46 := f46.below (by omega) (by omega)
  have b46 := b45.trans d46
  have z46 := f46.size
  have cS046 := (f46.cell (b := w.heap.size) (by omega) (by omega) 0).trans cS045
  have cS146 := (f46.cell (b := w.heap.size) (by omega) (by omega) 1).trans cS145
  have cS246 := (f46.cell (b := w.heap.size) (by omega) (by omega) 2).trans cS245
  have cS346 := (f46.cell (b := w.heap.size) (by omega) (by omega) 3).trans cS345
  have cC046 := (f46.cell (b := w.heap.size + 1) (by omega) (by omega) 0).trans cC045
  have cA046 := (f46.cell (b := w.heap.size + 1 + 1) (by omega) (by omega) 0).trans cA045
  have cB046 := (f46.cell (b := w.heap.size + 1 + 1 + 1) (by omega) (by omega) 0).trans cB045
  have cW046 := (f46.cell (b := gAW) (by omega) (by omega) 0).trans cW045
  have cW146 := (f46.cell (b := gAW) (by omega) (by omega) 1).trans cW145
  have cW246 := (f46.cell (b := gAW) (by omega) (by omega) 2).trans cW245
  have cW346 := (f46.cell (b := gAW) (by omega) (by omega) 3).trans cW345
  have cWV046 := (f46.cell (b := gBW) (by omega) (by omega) 0).trans cWV045
  have cG046 := (f46.cell (b := w20.heap.size) (by omega) (by omega) 0).trans cG045
  have cG146 := (f46.cell (b := w20.heap.size) (by omega) (by omega) 1).trans cG145
  have cG246 := (f46.cell (b := w20.heap.size) (by omega) (by omega) 2).trans cG245
  have cG346 := (f46.cell (b := w20.heap.size) (by omega) (by omega) 3).trans cG345
  have cGV046 := (f46.cell (b := w20.heap.size + 1) (by omega) (by omega) 0).trans cGV045
  have tS46 := tS45.keep d46 (Nat.le_refl _)
  have tC46 := tC45.keep d46 (Nat.le_refl _)
  have tA46 := tA45.keep d46 (Nat.le_refl _)
  have tB46 := tB45.keep d46 (Nat.le_refl _)
  have tW46 := tW45.only f46 (by omega) (by omega)
  have tWV46 := tWV45.only f46 (by omega) (by omega)
  clear cS045 cS145 cS245 cS345 cC045 cA045 cB045 cW045 cW145 cW245 cW345 cWV045 cG045 cG145 cG245 cG345 cGV045 tS45 tC45 tA45 tB45 tW45 tWV45 tG45
  have lcS046 : w.heap.size < w46.heap.size := blt cS046
  have lcC046 : w.heap.size + 1 < w46.heap.size := blt cC046
  have lcA046 : w.heap.size + 1 + 1 < w46.heap.size := blt cA046
  have lcB046 : w.heap.size + 1 + 1 + 1 < w46.heap.size := blt cB046
  have lcW046 : gAW < w46.heap.size := blt cW046
  have lcWV046 : gBW < w46.heap.size := blt cWV046
  have lcG046 : w20.heap.size < w46.heap.size := blt cG046
  have lcGV046 : w20.heap.size + 1 < w46.heap.size := blt cGV046
  go_wp2_with fail
  refine name_call fun w47 hw47 => ?_
  have b47 : Below w.heap.size w w47 := by rw [hw47]; (repeat (with_reducible first | exact bR _ _ | assumption | refine bD ?_ | refine bN ?_ _ | refine bA ?_ _ | refine bS ?_ _))
  have z47 : w46.heap.size + 0 ≤ w47.heap.size := by rw [hw47]; simp
  have e47 : Below w46.heap.size w46 w47 := by rw [hw47]; (repeat (with_reducible first | exact bR _ _ | assumption | refine bD ?_ | refine bN ?_ _ | refine bA ?_ _ | refine bS ?_ _))
  have cS047 := ck e47 cS046
  have cS147 := ck e47 cS146
  have cS247 := ck e47 cS246
  have cS347 := ck e47 cS346
  have cC047 := ck e47 cC046
  have cA047 := ck e47 cA046
  have cB047 := ck e47 cB046
  have cW047 := ck e47 cW046
  have cW147 := ck e47 cW146
  have cW247 := ck e47 cW246
  have cW347 := ck e47 cW346
  have cWV047 := ck e47 cWV046
  have cG047 := ck e47 cG046
  have cG147 := ck e47 cG146
  have cG247 := ck e47 cG246
  have cG347 := ck e47 cG346
  have cGV047 := ck e47 cGV046
  have tS47 := tS46.keep e47 (by omega)
  have tC47 := tC46.keep e47 (by omega)
  have tA47 := tA46.keep e47 (by omega)
  have tB47 := tB46.keep e47 (by omega)
  have tW47 := tW46.keep e47 (by omega)
  have tWV47 := tWV46.keep e47 (by omega)
  have tG47 := q46.keep e47 (by omega)
  clear hw47 lcS046 lcC046 lcA046 lcB046 lcW046 lcWV046 lcG046 lcGV046 cS046 cS146 cS246 cS346 cC046 cA046 cB046 cW046 cW146 cW246 cW346 cWV046 cG046 cG146 cG246 cG346 cGV046 tS46 tC46 tA46 tB46 tW46 tWV46
  refine (AnsSL.mark2 (1 + totS r) tG47 (by omega) (by omega)).mono ?_; rintro e w48 ⟨rfl, f48, q48⟩
  have d48 : Below w.heap.size w47 w48 := f48.below (by omega) (by omega)
  have b48 := b47.trans d48
  have z48 := f48.size
  have cS048 := (f48.cell (b := w.heap.size) (by omega) (by omega) 0).trans cS047
  have cS148 := (f48.cell (b := w.heap.size) (by omega) (by omega) 1).trans cS147
  have cS248 := (f48.cell (b := w.heap.size) (by omega) (by omega) 2).trans cS247
  have cS348 := (f48.cell (b := w.heap.size) (by omega) (by omega) 3).trans cS347
  have cC048 := (f48.cell (b := w.heap.size + 1) (by omega) (by omega) 0).trans cC047
  have cA048 := (f48.cell (b := w.heap.size + 1 + 1) (by omega) (by omega) 0).trans cA047
  have cB048 := (f48.cell (b := w.heap.size + 1 + 1 + 1) (by omega) (by omega) 0).trans cB047
  have cW048 := (f48.cell (b := gAW) (by omega) (by omega) 0).trans cW047
  have cW148 := (f48.cell (b := gAW) (by omega) (by omega) 1).trans cW147
  have cW248 := (f48.cell (b := gAW) (by omega) (by omega) 2).trans cW247
  have cW348 := (f48.cell (b := gAW) (by omega) (by omega) 3).trans cW347
  have cWV048 := (f48.cell (b := gBW) (by omega) (by omega) 0).trans cWV047
  have cG048 := (f48.cell (b := w20.heap.size) (by omega) (by omega) 0).trans cG047
  have cG148 := (f48.cell (b := w20.heap.size) (by omega) (by omega) 1).trans cG147
  have cG248 := (f48.cell (b := w20.heap.size) (by omega) (by omega) 2).trans cG247
  have cG348 := (f48.cell (b := w20.heap.size) (by omega) (by omega) 3).trans cG347
  have cGV048 := (f48.cell (b := w20.heap.size + 1) (by omega) (by omega) 0).trans cGV047
  have tS48 := tS47.keep d48 (Nat.le_refl _)
  have tC48 := tC47.keep d48 (Nat.le_refl _)
  have tA48 := tA47.keep d48 (Nat.le_refl _)
  have tB48 := tB47.keep d48 (Nat.le_refl _)
  have tW48 := tW47.only f48 (by omega) (by omega)
  have tWV48 := tWV47.only f48 (by omega) (by omega)
  clear cS047 cS147 cS247 cS347 cC047 cA047 cB047 cW047 cW147 cW247 cW347 cWV047 cG047 cG147 cG247 cG347 cGV047 tS47 tC47 tA47 tB47 tW47 tWV47 tG47
  have lcS048 : w.heap.size < w48.heap.size := blt cS048
  have lcC048 : w.heap.size + 1 < w48.heap.size := blt cC048
  have lcA048 : w.heap.size + 1 + 1 < w48.heap.size := blt cA048
  have lcB048 : w.heap.size + 1 + 1 + 1 < w48.heap.size := blt cB048
  have lcW048 : gAW < w48.heap.size := blt cW048
  have lcWV048 : gBW < w48.heap.size := blt cWV048
  have lcG048 : w20.heap.size < w48.heap.size := blt cG048
  have lcGV048 : w20.heap.size + 1 < w48.heap.size := blt cGV048
  go_wp2_with fail
  refine name_call fun w49 hw49 => ?_
  have b49 : Below w.heap.size w w49 := by rw [hw49]; (repeat (with_reducible first | exact bR _ _ | assumption | refine bD ?_ | refine bN ?_ _ | refine bA ?_ _ | refine bS ?_ _))
  have z49 : w48.heap.size + 0 ≤ w49.heap.size := by rw [hw49]; simp
  have e49 : Below w48.heap.size w48 w49 := by rw [hw49]; (repeat (with_reducible first | exact bR _ _ | assumption | refine bD ?_ | refine bN ?_ _ | refine bA ?_ _ | refine bS ?_ _))
  have cS049 := ck e49 cS048
  have cS149 := ck e49 cS148
  have cS249 := ck e49 cS248
  have cS349 := ck e49 cS348
  have cC049 := ck e49 cC048
  have cA049 := ck e49 cA048
  have cB049 := ck e49 cB048
  have cW049 := ck e49 cW048
  have cW149 := ck e49 cW148
  have cW249 := ck e49 cW248
  have cW349 := ck e49 cW348
  have cWV049 := ck e49 cWV048
  have cG049 := ck e49 cG048
  have cG149 := ck e49 cG148
  have cG249 := ck e49 cG248
  have cG349 := ck e49 cG348
  have cGV049 := ck e49 cGV048
  have tS49 := tS48.keep e49 (by omega)
  have tC49 := tC48.keep e49 (by omega)
  have tA49 := tA48.keep e49 (by omega)
  have tB49 := tB48.keep e49 (by omega)
  have tW49 := tW48.keep e49 (by omega)
  have tWV49 := tWV48.keep e49 (by omega)
  have tG49 := q48.keep e49 (by omega)
  clear hw49 lcS048 lcC048 lcA048 lcB048 lcW048 lcWV048 lcG048 lcGV048 cS048 cS148 cS248 cS348 cC048 cA048 cB048 cW048 cW148 cW248 cW348 cWV048 cG048 cG148 cG248 cG348 cGV048 tS48 tC48 tA48 tB48 tW48 tWV48
  refine (heldSys_any _ _ _ _ _ _ _ r 1 _ (tG49.sys) (by omega) (by omega)).mono ?_; rintro e w50 ⟨rfl, f50⟩
  have b50 := b49.trans (f50.mono (by omega))
  have z50 := f50.size
  have cS050 := ck f50 cS049
  have cS150 := ck f50 cS149
  have cS250 := ck f50 cS249
  have cS350 := ck f50 cS349
  have cC050 := ck f50 cC049
  have cA050 := ck f50 cA049
  have cB050 := ck f50 cB049
  have cW050 := ck f50 cW049
  have cW150 := ck f50 cW149
  have cW250 := ck f50 cW249
  have cW350 := ck f50 cW349
  have cWV050 := ck f50 cWV049
  have cG050 := ck f50 cG049
  have cG150 := ck f50 cG149
  have cG250 := ck f50 cG249
  have cG350 := ck f50 cG349
  have cGV050 := ck f50 cGV049
  have tS50 := tS49.keep f50 (by omega)
  have tC50 := tC49.keep f50 (by omega)
  have tA50 := tA49.keep f50 (by omega)
  have tB50 := tB49.keep f50 (by omega)
  have tW50 := tW49.keep f50 (by omega)
  have tWV50 := tWV49.keep f50 (by omega)
  have tG50 := tG49.keep f50 (by omega)
  clear cS049 cS149 cS249 cS349 cC049 cA049 cB049 cW049 cW149 cW249 cW349 cWV049 cG049 cG149 cG249 cG349 cGV049 tS49 tC49 tA49 tB49 tW49 tWV49 tG49
  have lcS050 : w.heap.size < w50.heap.size := blt cS050
  have lcC050 : w.heap.size + 1 < w50.heap.size := blt cC050
  have lcA050 : w.heap.size + 1 + 1 < w50.heap.size := blt cA050
  have lcB050 : w.heap.size + 1 + 1 + 1 < w50.heap.size := blt cB050
  have lcW050 : gAW < w50.heap.size := blt cW050
  have lcWV050 : gBW < w50.heap.size := blt cWV050
  have lcG050 : w20.heap.size < w50.heap.size := blt cG050
  have lcGV050 : w20.heap.size + 1 < w50.heap.size := blt cGV050
  go_wp2_with fail
  refine name_call fun w51 hw51 => ?_
  have b51 : Below w.heap.size w w51 := by rw [hw51]; (repeat (with_reducible first | exact bR _ _ | assumption | refine bD ?_ | refine bN ?_ _ | refine bA ?_ _ | refine bS ?_ _))
  have z51 : w50.heap.size + 0 ≤ w51.heap.size := by rw [hw51]; simp
  have e51 : Below w50.heap.size w50 w51 := by rw [hw51]; (repeat (with_reducible first | exact bR _ _ | assumption | refine bD ?_ | refine bN ?_ _ | refine bA ?_ _ | refine bS ?_ _))
  have cS051 := ck e51 cS050
  have cS151 := ck e51 cS150
  have cS251 := ck e51 cS250
  have cS351 := ck e51 cS350
  have cC051 := ck e51 cC050
  have cA051 := ck e51 cA050
  have cB051 := ck e51 cB050
  have cW051 := ck e51 cW050
  have cW151 := ck e51 cW150
  have cW251 := ck e51 cW250
  have cW351 := ck e51 cW350
  have cWV051 := ck e51 cWV050
  have cG051 := ck e51 cG050
  have cG151 := ck e51 cG150
  have cG251 := ck e51 cG250
  have cG351 := ck e51 cG350
  have cGV051 := ck e51 cGV050
  have tS51 := tS50.keep e51 (by omega)
  have tC51 := tC50.keep e51 (by omega)
  have tA51 := tA50.keep e51 (by omega)
  have tB51 := tB50.keep e51 (by omega)
  have tW51 := tW50.keep e51 (by omega)
  have tWV51 := tWV50.keep e51 (by omega)
  have tG51 := tG50.keep e51 (by omega)
  clear hw51 lcS050 lcC050 lcA050 lcB050 lcW050 lcWV050 lcG050 lcGV050 cS050 cS150 cS250 cS350 cC050 cA050 cB050 cW050 cW150 cW250 cW350 cWV050 cG050 cG150 cG250 cG350 cGV050 tS50 tC50 tA50 tB50 tW50 tWV50 tG50
  refine (heldLin_any _ _ _ _ v.length (1 + totS r) _ (tG51.snd) (by omega) (by omega) (by omega)).mono ?_; rintro e w52 ⟨rfl, f52⟩
  have b52 := b51.trans (f52.mono (by omega))
  have z52 := f52.size
  have cS052 := ck f52 cS051
  have cS152 := ck f52 cS151
  have cS252 := ck f52 cS251
  have cS352 := ck f52 cS351
  have cC052 := ck f52 cC051
  have cA052 := ck f52 cA051
  have cB052 := ck f52 cB051
  have cW052 := ck f52 cW051
  have cW152 := ck f52 cW151
  have cW252 := ck f52 cW251
  have cW352 := ck f52 cW351
  have cWV052 := ck f52 cWV051
  have cG052 := ck f52 cG051
  have cG152 := ck f52 cG151
  have cG252 := ck f52 cG251
  have cG352 := ck f52 cG351
  have cGV052 := ck f52 cGV051
  have tS52 := tS51.keep f52 (by omega)
  have tC52 := tC51.keep f52 (by omega)
  have tA52 := tA51.keep f52 (by omega)
  have tB52 := tB51.keep f52 (by omega)
  have tW52 := tW51.keep f52 (by omega)
  have tWV52 := tWV51.keep f52 (by omega)
  have tG52 := tG51.keep f52 (by omega)
  clear cS051 cS151 cS251 cS351 cC051 cA051 cB051 cW051 cW151 cW251 cW351 cWV051 cG051 cG151 cG251 cG351 cGV051 tS51 tC51 tA51 tB51 tW51 tWV51 tG51
  have lcS052 : w.heap.size < w52.heap.size := blt cS052
  have lcC052 : w.heap.size + 1 < w52.heap.size := blt cC052
  have lcA052 : w.heap.size + 1 + 1 < w52.heap.size := blt cA052
  have lcB052 : w.heap.size + 1 + 1 + 1 < w52.heap.size := blt cB052
  have lcW052 : gAW < w52.heap.size := blt cW052
  have lcWV052 : gBW < w52.heap.size := blt cWV052
  have lcG052 : w20.heap.size < w52.heap.size := blt cG052
  have lcGV052 : w20.heap.size + 1 < w52.heap.size := blt cGV052
  go_wp2_with fail
  refine name_wp fun w53 hw53 => ?_
  have b53 : Below w.heap.size w w53 := by rw [hw53]; (repeat (with_reducible first | exact bR _ _ | assumption | refine bD ?_ | refine bN ?_ _ | refine bA ?_ _ | refine bS ?_ _))
  have z53 : w52.heap.size + 0 ≤ w53.heap.size := by rw [hw53]; simp
  have e53 : Below w52.heap.size w52 w53 := by rw [hw53]; (repeat (with_reducible first | exact bR _ _ | assumption | refine bD ?_ | refine bN ?_ _ | refine bA ?_ _ | refine bS ?_ _))
  have cS053 := ck e53 cS052
  have cS153 := ck e53 cS152
  have cS253 := ck e53 cS252
  have cS353 := ck e53 cS352
  have cC053 := ck e53 cC052
  have cA053 := ck e53 cA052
  have cB053 := ck e53 cB052
  have cW053 := ck e53 cW052
  have cW153 := ck e53 cW152
  have cW253 := ck e53 cW252
  have cW353 := ck e53 cW352
  have cWV053 := ck e53 cWV052
  have cG053 := ck e53 cG052
  have cG153 := ck e53 cG152
  have cG253 := ck e53 cG252
  have cG353 := ck e53 cG352
  have cGV053 := ck e53 cGV052
  have tS53 := tS52.keep e53 (by omega)
  have tC53 := tC52.keep e53 (by omega)
  have tA53 := tA52.keep e53 (by omega)
  have tB53 := tB52.keep e53 (by omega)
  have tW53 := tW52.keep e53 (by omega)
  have tWV53 := tWV52.keep e53 (by omega)
  have tG53 := tG52.keep e53 (by omega)
  clear hw53 lcS052 lcC052 lcA052 lcB052 lcW052 lcWV052 lcG052 lcGV052 cS052 cS152 cS252 cS352 cC052 cA052 cB052 cW052 cW152 cW252 cW352 cWV052 cG052 cG152 cG252 cG352 cGV052 tS52 tC52 tA52 tB52 tW52 tWV52 tG52
  have d0H : Below w53.heap.size w53 w53.drew := (Below.refl _ _).drew
  have zrH : w53.drew.heap.size = w53.heap.size := rfl
  have US := tS53.keep d0H (by omega)
  have UC := tC53.keep d0H (by omega)
  have UA := tA53.keep d0H (by omega)
  have UB := tB53.keep d0H (by omega)
  have GS0 : w53.drew.cell? ⟨w.heap.size, 0, none⟩ = some (.int .i64 sS.ins) := cell_keep d0H cS053
  have GS1 : w53.drew.cell? ⟨w.heap.size, 1, none⟩ = some (.slice aoS sS.outs.length koS) := cell_keep d0H cS153
  have GS2 : w53.drew.cell? ⟨w.heap.size, 2, none⟩ = some (.slice ahS sS.hints.length khS) := cell_keep d0H cS253
  have GS3 : w53.drew.cell? ⟨w.heap.size, 3, none⟩ = some (.slice acS sS.cons.length kcS) := cell_keep d0H cS353
  have GC0 : w53.drew.cell? ⟨w.heap.size + 1, 0, none⟩ = some (.slice aC tsC.length kC) := cell_keep d0H cC053
  have GA0 : w53.drew.cell? ⟨w.heap.size + 1 + 1, 0, none⟩ = some (.slice aA tsA.length kA) := cell_keep d0H cA053
  have GB0 : w53.drew.cell? ⟨w.heap.size + 1 + 1 + 1, 0, none⟩ = some (.slice aB tsB.length kB) := cell_keep d0H cB053
  go_cut [23, 24, 25] (fun s23 s24 s25 wx => CutSL w53.drew r v ok s23 s24 s25 wx)
  case first =>
    rename_i J K' hJ hK
    refine wp_region_drawn [23, 24, 25, 161, 162, 163, 164, 165, 166, 167, 168, 169, 170, 171, 172, 173] (fun d u wx => Below w53.drew.heap.size w53.drew wx ∧ (d 0 = true → u 162 = .agg #[.int .i64 sS.ins, .slice aoS sS.outs.length koS, .slice ahS sS.hints.length khS, .slice acS sS.cons.length kcS]) ∧ ArgSys (d 1) (d 8) sS (u 163) wx ∧ (d 2 = true → u 164 = .agg #[.slice aC tsC.length kC]) ∧ ArgLin (d 3) (d 8) tsC (u 165) wx ∧ (d 4 = true → u 166 = .agg #[.slice aA tsA.length kA]) ∧ ArgLin (d 5) (d 8) tsA (u 167) wx ∧ (d 6 = true → u 168 = .agg #[.slice aB tsB.length kB]) ∧ ArgLin (d 7) (d 8) tsB (u 169) wx ∧ ResSL w53.drew r v ok (d 8) (d 9) (d 10) (d 11) (d 12) (d 13) (d 14) (d 15) (d 16) (d 17) (u 170) (u 161) (u 171) (u 172) (u 173) (u 23) (u 24) (u 25) wx) (by kernel_rfl) (by kernel_rfl) (by kernel_rfl) ?_ ?_ ?_
    · intro u; exact ⟨Below.refl _ _, vac rfl, ArgSys.none, vac rfl, ArgLin.none, vac rfl, ArgLin.none, vac rfl, ArgLin.none, ResSL.start⟩
    · refine ⟨?_, ?_, ?_, ?_, ?_, ?_, ?_, ?_, ?_, ?_, ?_, ?_, ?_, ?_, ?_, ?_, ?_, ?_, trivial⟩
      · intro d u wx h0 hd hF
        obtain ⟨hb, f0, f1, f2, f3, f4, f5, f6, f7, fR⟩ := hF
        have sz := hb.size
        refine Wpv.env fun ρ hin hout hcon hfun => ?_
        have E4 : ρ (.tmp 4) = .pointer (some ⟨w.heap.size, 0, none⟩) := (hout 4 (by kernel_rfl)).trans (by kernel_rfl)
        clear hin hout
        have c0 := cell_keep hb GS0
        have c1 := cell_keep hb GS1
        have c2 := cell_keep hb GS2
        have c3 := cell_keep hb GS3
        refine Wpv.value (v := .agg #[.int .i64 sS.ins, .slice aoS sS.outs.length koS, .slice ahS sS.hints.length khS, .slice acS sS.cons.length kcS]) (w' := wx) ?_ ⟨hb, fun _ => rfl, f1, f2, f3, f4, f5, f6, f7, fR⟩
        clear f0 f1 f2 f3 f4 f5 f6 f7 fR
        simp only [execOp]; rw [E4]; go_simp
      · intro d u wx h0 hd hF
        obtain ⟨hb, f0, f1, f2, f3, f4, f5, f6, f7, fR⟩ := hF
        have sz := hb.size
        refine Wpv.env fun ρ hin hout hcon hfun => ?_
        have E162 := hin 162 (by kernel_rfl)
        clear hin hout
        have e := E162.trans (f0 (hd.get (j := 0) (by kernel_rfl)))
        have t := US.keep hb (by omega)
        refine Wpv.enter (f := 13) (args := #[.agg #[.int .i64 sS.ins, .slice aoS sS.outs.length koS, .slice ahS sS.hints.length khS, .slice acS sS.cons.length kcS]]) (w' := wx) (by clear f0 f1 f2 f3 f4 f5 f6 f7 fR t E162; go_simp) (toSys_any _ _ _ _ _ _ _ sS wx t (by omega) (by omega)) ?_
        rintro e' w' ⟨a1, a2, a3, rfl, j1, t1⟩
        exact ⟨_, rfl, ⟨hb.trans (j1.mono sz), f0, ArgSys.new t1, f2, f3.keep j1, f4, f5.keep j1, f6, f7.keep j1, fR.keep j1⟩⟩
      · intro d u wx h0 hd hF
        obtain ⟨hb, f0, f1, f2, f3, f4, f5, f6, f7, fR⟩ := hF
        have sz := hb.size
        refine Wpv.env fun ρ hin hout hcon hfun => ?_
        have E5 : ρ (.tmp 5) = .pointer (some ⟨w.heap.size + 1, 0, none⟩) := (hout 5 (by kernel_rfl)).trans (by kernel_rfl)
        clear hin hout
        have c0 := cell_keep hb GC0
        refine Wpv.value (v := .agg #[.slice aC tsC.length kC]) (w' := wx) ?_ ⟨hb, f0, f1, fun _ => rfl, f3, f4, f5, f6, f7, fR⟩
        clear f0 f1 f2 f3 f4 f5 f6 f7 fR
        simp only [execOp]; rw [E5]; go_simp
      · intro d u wx h0 hd hF
        obtain ⟨hb, f0, f1, f2, f3, f4, f5, f6, f7, fR⟩ := hF
        have sz := hb.size
        refine Wpv.env fun ρ hin hout hcon hfun => ?_
        have E164 := hin 164 (by kernel_rfl)
        clear hin hout
        have e := E164.trans (f2 (hd.get (j := 2) (by kernel_rfl)))
        have t := UC.keep hb (by omega)
        refine Wpv.enter (f := 14) (args := #[.agg #[.slice aC tsC.length kC]]) (w' := wx) (by clear f0 f1 f2 f3 f4 f5 f6 f7 fR t E164; go_simp) (toLin_any _ _ _ _ tsC wx t (by omega) (by omega)) ?_
        rintro e' w' ⟨a1, rfl, j1, t1⟩
        exact ⟨_, rfl, ⟨hb.trans (j1.mono sz), f0, f1.keep j1, f2, ArgLin.new t1, f4, f5.keep j1, f6, f7.keep j1, fR.keep j1⟩⟩
      · intro d u wx h0 hd hF
        obtain ⟨hb, f0, f1, f2, f3, f4, f5, f6, f7, fR⟩ := hF
        have sz := hb.size
        refine Wpv.env fun ρ hin hout hcon hfun => ?_
        have E6 : ρ (.tmp 6) = .pointer (some ⟨w.heap.size + 1 + 1, 0, none⟩) := (hout 6 (by kernel_rfl)).trans (by kernel_rfl)
        clear hin hout
        have c0 := cell_keep hb GA0
        refine Wpv.value (v := .agg #[.slice aA tsA.length kA]) (w' := wx) ?_ ⟨hb, f0, f1, f2, f3, fun _ => rfl, f5, f6, f7, fR⟩
        clear f0 f1 f2 f3 f4 f5 f6 f7 fR
        simp only [execOp]; rw [E6]; go_simp
      · intro d u wx h0 hd hF
        obtain ⟨hb, f0, f1, f2, f3, f4, f5, f6, f7, fR⟩ := hF
        have sz := hb.size
        refine Wpv.env fun ρ hin hout hcon hfun => ?_
        have E166 := hin 166 (by kernel_rfl)
        clear hin hout
        have e := E166.trans (f4 (hd.get (j := 4) (by kernel_rfl)))
        have t := UA.keep hb (by omega)
        refine Wpv.enter (f := 14) (args := #[.agg #[.slice aA tsA.length kA]]) (w' := wx) (by clear f0 f1 f2 f3 f4 f5 f6 f7 fR t E166; go_simp) (toLin_any _ _ _ _ tsA wx t (by omega) (by omega)) ?_
        rintro e' w' ⟨a1, rfl, j1, t1⟩
        exact ⟨_, rfl, ⟨hb.trans (j1.mono sz), f0, f1.keep j1, f2, f3.keep j1, f4, ArgLin.new t1, f6, f7.keep j1, fR.keep j1⟩⟩
      · intro d u wx h0 hd hF
        obtain ⟨hb, f0, f1, f2, f3, f4, f5, f6, f7, fR⟩ := hF
        have sz := hb.size
        refine Wpv.env fun ρ hin hout hcon hfun => ?_
        have E7 : ρ (.tmp 7) = .pointer (some ⟨w.heap.size + 1 + 1 + 1, 0, none⟩) := (hout 7 (by kernel_rfl)).trans (by kernel_rfl)
        clear hin hout
        have c0 := cell_keep hb GB0
        refine Wpv.value (v := .agg #[.slice aB tsB.length kB]) (w' := wx) ?_ ⟨hb, f0, f1, f2, f3, f4, f5, fun _ => rfl, f7, fR⟩
        clear f0 f1 f2 f3 f4 f5 f6 f7 fR
        simp only [execOp]; rw [E7]; go_simp
      · intro d u wx h0 hd hF
        obtain ⟨hb, f0, f1, f2, f3, f4, f5, f6, f7, fR⟩ := hF
        have sz := hb.size
        refine Wpv.env fun ρ hin hout hcon hfun => ?_
        have E168 := hin 168 (by kernel_rfl)
        clear hin hout
        have e := E168.trans (f6 (hd.get (j := 6) (by kernel_rfl)))
        have t := UB.keep hb (by omega)
        refine Wpv.enter (f := 14) (args := #[.agg #[.slice aB tsB.length kB]]) (w' := wx) (by clear f0 f1 f2 f3 f4 f5 f6 f7 fR t E168; go_simp) (toLin_any _ _ _ _ tsB wx t (by omega) (by omega)) ?_
        rintro e' w' ⟨a1, rfl, j1, t1⟩
        exact ⟨_, rfl, ⟨hb.trans (j1.mono sz), f0, f1.keep j1, f2, f3.keep j1, f4, f5.keep j1, f6, ArgLin.new t1, fR.keep j1⟩⟩
      · intro d u wx h0 hd hF
        obtain ⟨hb, f0, f1, f2, f3, f4, f5, f6, f7, fR⟩ := hF
        have sz := hb.size
        refine Wpv.env fun ρ hin hout hcon hfun => ?_
        have E163 := hin 163 (by kernel_rfl)
        have E165 := hin 165 (by kernel_rfl)
        have E167 := hin 167 (by kernel_rfl)
        have E169 := hin 169 (by kernel_rfl)
        clear hin hout
        obtain ⟨x1S, x2S, x3S, e0S, tS⟩ := f1 (hd.get (j := 1) (by kernel_rfl)) h0
        have eS := E163.trans e0S
        obtain ⟨x1C, e0C, tC⟩ := f3 (hd.get (j := 3) (by kernel_rfl)) h0
        have eC := E165.trans e0C
        obtain ⟨x1A, e0A, tA⟩ := f5 (hd.get (j := 5) (by kernel_rfl)) h0
        have eA := E167.trans e0A
        obtain ⟨x1B, e0B, tB⟩ := f7 (hd.get (j := 7) (by kernel_rfl)) h0
        have eB := E169.trans e0B
        rw [h0] at fR
        refine Wpv.enter (f := 34) (args := #[.agg #[.int .i64 sS.ins, x1S, x2S, x3S], .agg #[x1C], .agg #[x1A], .agg #[x1B]]) (w' := wx) (by clear E163 E165 E167 E169 tS tC tA tB e0S e0C e0A e0B f0 f1 f2 f3 f4 f5 f6 f7 fR; go_simp) (addMux_impl _ _ _ _ _ _ _ sS _ _ _ _ tsC _ _ _ _ tsA _ _ _ _ tsB _ tS (Nat.le_refl _) sm tC (Nat.le_refl _) tA (Nat.le_refl _) tB (Nat.le_refl _) (by omega) (by omega) (by omega) ok r v Ho Hr Hv) ?_
        intro e' w' hq
        obtain ⟨uu, hu, j1, hr⟩ := ResSL.main fR hb hq
        exact ⟨uu, hu, ⟨hb.trans (j1.mono sz), f0, ArgSys.past, f2, ArgLin.past, f4, ArgLin.past, f6, ArgLin.past, hr⟩⟩
      · intro d u wx h0 hd hF
        obtain ⟨hb, f0, f1, f2, f3, f4, f5, f6, f7, fR⟩ := hF
        have sz := hb.size
        refine Wpv.env fun ρ hin hout hcon hfun => ?_
        have E170 := hin 170 (by kernel_rfl)
        clear hin hout
        exact Wpv.value (v := u 170) (by simp only [execOp]; rw [E170]; rfl) ⟨hb, f0, f1, f2, f3, f4, f5, f6, f7, (ResSL.moveD (hd.get (j := 8) (by kernel_rfl)) fR)⟩
      · intro d u wx h0 hd hF
        obtain ⟨hb, f0, f1, f2, f3, f4, f5, f6, f7, fR⟩ := hF
        have sz := hb.size
        refine Wpv.env fun ρ hin hout hcon hfun => ?_
        have E161 := hin 161 (by kernel_rfl)
        clear hin hout
        have hm : d 9 = true := hd.get (j := 9) (by kernel_rfl)
        obtain ⟨x, y, b, e⟩ := ResSL.tupD hm fR
        have e1 := E161.trans e
        refine Wpv.value (v := x) (w' := wx) (by clear e E161 f0 f1 f2 f3 f4 f5 f6 f7 fR; go_simp) ⟨hb, f0, f1, f2, f3, f4, f5, f6, f7, (ResSL.ex0D hm e fR)⟩
      · intro d u wx h0 hd hF
        obtain ⟨hb, f0, f1, f2, f3, f4, f5, f6, f7, fR⟩ := hF
        have sz := hb.size
        refine Wpv.env fun ρ hin hout hcon hfun => ?_
        have E161 := hin 161 (by kernel_rfl)
        clear hin hout
        have hm : d 9 = true := hd.get (j := 9) (by kernel_rfl)
        obtain ⟨x, y, b, e⟩ := ResSL.tupD hm fR
        have e1 := E161.trans e
        refine Wpv.value (v := y) (w' := wx) (by clear e E161 f0 f1 f2 f3 f4 f5 f6 f7 fR; go_simp) ⟨hb, f0, f1, f2, f3, f4, f5, f6, f7, (ResSL.ex1D hm e fR)⟩
      · intro d u wx h0 hd hF
        obtain ⟨hb, f0, f1, f2, f3, f4, f5, f6, f7, fR⟩ := hF
        have sz := hb.size
        refine Wpv.env fun ρ hin hout hcon hfun => ?_
        have E161 := hin 161 (by kernel_rfl)
        clear hin hout
        have hm : d 9 = true := hd.get (j := 9) (by kernel_rfl)
        obtain ⟨x, y, b, e⟩ := ResSL.tupD hm fR
        have e1 := E161.trans e
        refine Wpv.value (v := b) (w' := wx) (by clear e E161 f0 f1 f2 f3 f4 f5 f6 f7 fR; go_simp) ⟨hb, f0, f1, f2, f3, f4, f5, f6, f7, (ResSL.ex2D hm e fR)⟩
      · intro d u wx h0 hd hF
        obtain ⟨hb, f0, f1, f2, f3, f4, f5, f6, f7, fR⟩ := hF
        have sz := hb.size
        refine Wpv.env fun ρ hin hout hcon hfun => ?_
        clear hin hout
        rw [h0] at fR
        have j1 : Below wx.heap.size wx (wx.alloc (.cells #[.int .i64 0, .slice none 0 0, .slice none 0 0, .slice none 0 0] 36)) := balloc (Nat.le_refl _) (Below.refl _ _) _
        refine Wpv.value (v := .pointer (some ⟨wx.heap.size, 0, none⟩)) (w' := wx.alloc (.cells #[.int .i64 0, .slice none 0 0, .slice none 0 0, .slice none 0 0] 36)) (by clear f0 f1 f2 f3 f4 f5 f6 f7 fR; go_simp) ⟨hb.trans (j1.mono sz), f0, f1.keep j1, f2, f3.keep j1, f4, f5.keep j1, f6, f7.keep j1, fR.boxA hb⟩
      · intro d u wx h0 hd hF
        obtain ⟨hb, f0, f1, f2, f3, f4, f5, f6, f7, fR⟩ := hF
        have sz := hb.size
        refine Wpv.env fun ρ hin hout hcon hfun => ?_
        clear hin hout
        rw [h0] at fR
        have j1 : Below wx.heap.size wx (wx.alloc (.cells #[.slice none 0 0] 39)) := balloc (Nat.le_refl _) (Below.refl _ _) _
        refine Wpv.value (v := .pointer (some ⟨wx.heap.size, 0, none⟩)) (w' := wx.alloc (.cells #[.slice none 0 0] 39)) (by clear f0 f1 f2 f3 f4 f5 f6 f7 fR; go_simp) ⟨hb.trans (j1.mono sz), f0, f1.keep j1, f2, f3.keep j1, f4, f5.keep j1, f6, f7.keep j1, fR.boxB hb⟩
      · intro d u wx h0 hd hF
        obtain ⟨hb, f0, f1, f2, f3, f4, f5, f6, f7, fR⟩ := hF
        have sz := hb.size
        refine Wpv.env fun ρ hin hout hcon hfun => ?_
        have E23 := hin 23 (by kernel_rfl)
        have E171 := hin 171 (by kernel_rfl)
        clear hin hout
        have m : d 8 = true := (ResSL.upD (Or.inl (hd.get (j := 10) (by kernel_rfl))) fR)
        obtain ⟨gg, n0, a1, n1, k1, a2, n2, k2, a3, n3, k3, z0, z1, z2, z3, e1, e2, fr, bx⟩ := ResSL.preAD (hd.get (j := 10) (by kernel_rfl)) (hd.get (j := 13) (by kernel_rfl)) fR
        obtain ⟨c0, c1, c2, c3⟩ := id bx
        obtain ⟨r0, r1, r2, r3⟩ := id fr
        obtain ⟨lg, fR'⟩ := ResSL.setAD (hd.get (j := 10) (by kernel_rfl)) (hd.get (j := 13) (by kernel_rfl)) e1 e2 fR
        have y1 := E23.trans e1
        have y2 := E171.trans e2
        refine Wpv.skip (w' := set4 wx gg (.int .i64 n0) (.slice a1 n1 k1) (.slice a2 n2 k2) (.slice a3 n3 k3)) (by unfold set4; clear fR' e1 e2 E23 E171 bx fr f0 f1 f2 f3 f4 f5 f6 f7 fR; go_simp) ?_
        exact ⟨set4_below hb lg _ _ _ _, f0, ArgSys.pastD m, f2, ArgLin.pastD m, f4, ArgLin.pastD m, f6, ArgLin.pastD m, fR'⟩
      · intro d u wx h0 hd hF
        obtain ⟨hb, f0, f1, f2, f3, f4, f5, f6, f7, fR⟩ := hF
        have sz := hb.size
        refine Wpv.env fun ρ hin hout hcon hfun => ?_
        have E24 := hin 24 (by kernel_rfl)
        have E172 := hin 172 (by kernel_rfl)
        clear hin hout
        have m : d 8 = true := (ResSL.upD (Or.inr (hd.get (j := 11) (by kernel_rfl))) fR)
        obtain ⟨gg, a1, n1, k1, z0, e1, e2, r0, c0⟩ := ResSL.preBD (hd.get (j := 11) (by kernel_rfl)) (hd.get (j := 14) (by kernel_rfl)) fR
        obtain ⟨lg, fR'⟩ := ResSL.setBD (hd.get (j := 11) (by kernel_rfl)) (hd.get (j := 14) (by kernel_rfl)) e1 e2 fR
        have y1 := E24.trans e1
        have y2 := E172.trans e2
        refine Wpv.skip (w' := wx.setCell ⟨gg, 0, none⟩ (.slice a1 n1 k1)) (by clear fR' e1 e2 E24 E172 f0 f1 f2 f3 f4 f5 f6 f7 fR; go_simp) ?_
        exact ⟨bset lg hb _, f0, ArgSys.pastD m, f2, ArgLin.pastD m, f4, ArgLin.pastD m, f6, ArgLin.pastD m, fR'⟩
      · intro d u wx h0 hd hF
        obtain ⟨hb, f0, f1, f2, f3, f4, f5, f6, f7, fR⟩ := hF
        have sz := hb.size
        refine Wpv.env fun ρ hin hout hcon hfun => ?_
        have E173 := hin 173 (by kernel_rfl)
        clear hin hout
        exact Wpv.value (v := u 173) (by simp only [execOp]; rw [E173]; rfl) ⟨hb, f0, f1, f2, f3, f4, f5, f6, f7, (ResSL.finD (hd.get (j := 12) (by kernel_rfl)) fR)⟩
    · intro d u wx hall hF
      obtain ⟨hb, f0, f1, f2, f3, f4, f5, f6, f7, fR⟩ := hF
      have fC := ResSL.cutD fR hb (hall 8 (by decide)) (hall 13 (by decide)) (hall 14 (by decide)) (hall 15 (by decide)) (hall 16 (by decide)) (hall 17 (by decide))
      clear f0 f1 f2 f3 f4 f5 f6 f7 fR
      refine hK _ _ (Met.intro (hJ _ _ ?_))
      simp only [setF, List.foldl_cons, List.foldl_nil, Act.put, List.setIfInBounds_toArray, List.set_cons_zero, List.set_cons_succ]
      repeat apply Exists.intro
      exact ⟨fC, rfl⟩
  obtain ⟨gAH, gBH, ui, uo, uh, uc, uv, rfl, rfl, rfl, hgAH, hgBH, ⟨b0, b1, b2, b3⟩, b4, tW, tV, bW⟩ := hcut
  obtain ⟨aoH, koH, ahH, khH, acH, kcH, rfl, rfl, rfl, rfl, loH, boH, lhH, bhH, lcH, bcH, fiH⟩ := id tW.shape
  obtain ⟨aHV, kHV, rfl, laHV, baHV⟩ := id tV.shape
  obtain ⟨w54, hw54⟩ : ∃ x, x = wc := ⟨_, rfl⟩
  subst hw54
  have f54 : Below w53.heap.size w53 w54 := d0H.trans bW
  have b54 := b53.trans (f54.mono (by omega))
  have z54 := f54.size
  have cS054 := ck f54 cS053
  have cS154 := ck f54 cS153
  have cS254 := ck f54 cS253
  have cS354 := ck f54 cS353
  have cC054 := ck f54 cC053
  have cA054 := ck f54 cA053
  have cB054 := ck f54 cB053
  have cW054 := ck f54 cW053
  have cW154 := ck f54 cW153
  have cW254 := ck f54 cW253
  have cW354 := ck f54 cW353
  have cWV054 := ck f54 cWV053
  have cG054 := ck f54 cG053
  have cG154 := ck f54 cG153
  have cG254 := ck f54 cG253
  have cG354 := ck f54 cG353
  have cGV054 := ck f54 cGV053
  have tS54 := tS53.keep f54 (by omega)
  have tC54 := tC53.keep f54 (by omega)
  have tA54 := tA53.keep f54 (by omega)
  have tB54 := tB53.keep f54 (by omega)
  have tW54 := tW53.keep f54 (by omega)
  have tWV54 := tWV53.keep f54 (by omega)
  have tG54 := tG53.keep f54 (by omega)
  clear cS053 cS153 cS253 cS353 cC053 cA053 cB053 cW053 cW153 cW253 cW353 cWV053 cG053 cG153 cG253 cG353 cGV053 tS53 tC53 tA53 tB53 tW53 tWV53 tG53 US UC UA UB GS0 GS1 GS2 GS3 GC0 GA0 GB0
  have b0H := b0; clear b0
  have b1H := b1; clear b1
  have b2H := b2; clear b2
  have b3H := b3; clear b3
  have lgAH : gAH < w54.heap.size := World.block_lt_of_cell? _ _ b0H
  have lgBH : gBH < w54.heap.size := World.block_lt_of_cell? _ _ b4
  have b4H := b4; clear b4
  have tH54 := tW; clear tW
  have tHV54 := tV; clear tV
  have lcS054 : w.heap.size < w54.heap.size := blt cS054
  have lcC054 : w.heap.size + 1 < w54.heap.size := blt cC054
  have lcA054 : w.heap.size + 1 + 1 < w54.heap.size := blt cA054
  have lcB054 : w.heap.size + 1 + 1 + 1 < w54.heap.size := blt cB054
  have lcW054 : gAW < w54.heap.size := blt cW054
  have lcWV054 : gBW < w54.heap.size := blt cWV054
  have lcG054 : w20.heap.size < w54.heap.size := blt cG054
  have lcGV054 : w20.heap.size + 1 < w54.heap.size := blt cGV054
  have lb0H : gAH < w54.heap.size := blt b0H
  have lb4H : gBH < w54.heap.size := blt b4H
  go_wp2_with fail
  refine name_call fun w55 hw55 => ?_
  have b55 : Below w.heap.size w w55 := by rw [hw55]; (repeat (with_reducible first | exact bR _ _ | assumption | refine bD ?_ | refine bN ?_ _ | refine bA ?_ _ | refine bS ?_ _))
  have z55 : w54.heap.size + 0 ≤ w55.heap.size := by rw [hw55]; simp
  have e55 : Below w54.heap.size w54 w55 := by rw [hw55]; (repeat (with_reducible first | exact bR _ _ | assumption | refine bD ?_ | refine bN ?_ _ | refine bA ?_ _ | refine bS ?_ _))
  have cS055 := ck e55 cS054
  have cS155 := ck e55 cS154
  have cS255 := ck e55 cS254
  have cS355 := ck e55 cS354
  have cC055 := ck e55 cC054
  have cA055 := ck e55 cA054
  have cB055 := ck e55 cB054
  have cW055 := ck e55 cW054
  have cW155 := ck e55 cW154
  have cW255 := ck e55 cW254
  have cW355 := ck e55 cW354
  have cWV055 := ck e55 cWV054
  have cG055 := ck e55 cG054
  have cG155 := ck e55 cG154
  have cG255 := ck e55 cG254
  have cG355 := ck e55 cG354
  have cGV055 := ck e55 cGV054
  have cH055 := ck e55 b0H
  have cH155 := ck e55 b1H
  have cH255 := ck e55 b2H
  have cH355 := ck e55 b3H
  have cHV055 := ck e55 b4H
  have tS55 := tS54.keep e55 (by omega)
  have tC55 := tC54.keep e55 (by omega)
  have tA55 := tA54.keep e55 (by omega)
  have tB55 := tB54.keep e55 (by omega)
  have tW55 := tW54.keep e55 (by omega)
  have tWV55 := tWV54.keep e55 (by omega)
  have tG55 := tG54.keep e55 (by omega)
  have tH55 := tH54.keep e55 (by omega)
  have tHV55 := tHV54.keep e55 (by omega)
  clear hw55 lcS054 lcC054 lcA054 lcB054 lcW054 lcWV054 lcG054 lcGV054 lb0H lb4H cS054 cS154 cS254 cS354 cC054 cA054 cB054 cW054 cW154 cW254 cW354 cWV054 cG054 cG154 cG254 cG354 cGV054 b0H b1H b2H b3H b4H tS54 tC54 tA54 tB54 tW54 tWV54 tG54 tH54 tHV54
  refine (eqSys_same _ _ _ _ _ _ _ _ _ _ _ _ _ _ r _ (tH55) (tW55) (by omega) (by omega)).mono ?_; rintro e w56 ⟨rfl, f56⟩
  have b56 := b55.trans (f56.mono (by omega))
  have z56 := f56.size
  have cS056 := ck f56 cS055
  have cS156 := ck f56 cS155
  have cS256 := ck f56 cS255
  have cS356 := ck f56 cS355
  have cC056 := ck f56 cC055
  have cA056 := ck f56 cA055
  have cB056 := ck f56 cB055
  have cW056 := ck f56 cW055
  have cW156 := ck f56 cW155
  have cW256 := ck f56 cW255
  have cW356 := ck f56 cW355
  have cWV056 := ck f56 cWV055
  have cG056 := ck f56 cG055
  have cG156 := ck f56 cG155
  have cG256 := ck f56 cG255
  have cG356 := ck f56 cG355
  have cGV056 := ck f56 cGV055
  have cH056 := ck f56 cH055
  have cH156 := ck f56 cH155
  have cH256 := ck f56 cH255
  have cH356 := ck f56 cH355
  have cHV056 := ck f56 cHV055
  have tS56 := tS55.keep f56 (by omega)
  have tC56 := tC55.keep f56 (by omega)
  have tA56 := tA55.keep f56 (by omega)
  have tB56 := tB55.keep f56 (by omega)
  have tW56 := tW55.keep f56 (by omega)
  have tWV56 := tWV55.keep f56 (by omega)
  have tG56 := tG55.keep f56 (by omega)
  have tH56 := tH55.keep f56 (by omega)
  have tHV56 := tHV55.keep f56 (by omega)
  clear cS055 cS155 cS255 cS355 cC055 cA055 cB055 cW055 cW155 cW255 cW355 cWV055 cG055 cG155 cG255 cG355 cGV055 cH055 cH155 cH255 cH355 cHV055 tS55 tC55 tA55 tB55 tW55 tWV55 tG55 tH55 tHV55
  have lcS056 : w.heap.size < w56.heap.size := blt cS056
  have lcC056 : w.heap.size + 1 < w56.heap.size := blt cC056
  have lcA056 : w.heap.size + 1 + 1 < w56.heap.size := blt cA056
  have lcB056 : w.heap.size + 1 + 1 + 1 < w56.heap.size := blt cB056
  have lcW056 : gAW < w56.heap.size := blt cW056
  have lcWV056 : gBW < w56.heap.size := blt cWV056
  have lcG056 : w20.heap.size < w56.heap.size := blt cG056
  have lcGV056 : w20.heap.size + 1 < w56.heap.size := blt cGV056
  have lcH056 : gAH < w56.heap.size := blt cH056
  have lcHV056 : gBH < w56.heap.size := blt cHV056
  go_wp2_with fail
  refine name_call fun w57 hw57 => ?_
  have b57 : Below w.heap.size w w57 := by rw [hw57]; (repeat (with_reducible first | exact bR _ _ | assumption | refine bD ?_ | refine bN ?_ _ | refine bA ?_ _ | refine bS ?_ _))
  have z57 : w56.heap.size + 0 ≤ w57.heap.size := by rw [hw57]; simp
  have e57 : Below w56.heap.size w56 w57 := by rw [hw57]; (repeat (with_reducible first | exact bR _ _ | assumption | refine bD ?_ | refine bN ?_ _ | refine bA ?_ _ | refine bS ?_ _))
  have cS057 := ck e57 cS056
  have cS157 := ck e57 cS156
  have cS257 := ck e57 cS256
  have cS357 := ck e57 cS356
  have cC057 := ck e57 cC056
  have cA057 := ck e57 cA056
  have cB057 := ck e57 cB056
  have cW057 := ck e57 cW056
  have cW157 := ck e57 cW156
  have cW257 := ck e57 cW256
  have cW357 := ck e57 cW356
  have cWV057 := ck e57 cWV056
  have cG057 := ck e57 cG056
  have cG157 := ck e57 cG156
  have cG257 := ck e57 cG256
  have cG357 := ck e57 cG356
  have cGV057 := ck e57 cGV056
  have cH057 := ck e57 cH056
  have cH157 := ck e57 cH156
  have cH257 := ck e57 cH256
  have cH357 := ck e57 cH356
  have cHV057 := ck e57 cHV056
  have tS57 := tS56.keep e57 (by omega)
  have tC57 := tC56.keep e57 (by omega)
  have tA57 := tA56.keep e57 (by omega)
  have tB57 := tB56.keep e57 (by omega)
  have tW57 := tW56.keep e57 (by omega)
  have tWV57 := tWV56.keep e57 (by omega)
  have tG57 := tG56.keep e57 (by omega)
  have tH57 := tH56.keep e57 (by omega)
  have tHV57 := tHV56.keep e57 (by omega)
  clear hw57 lcS056 lcC056 lcA056 lcB056 lcW056 lcWV056 lcG056 lcGV056 lcH056 lcHV056 cS056 cS156 cS256 cS356 cC056 cA056 cB056 cW056 cW156 cW256 cW356 cWV056 cG056 cG156 cG256 cG356 cGV056 cH056 cH156 cH256 cH356 cHV056 tS56 tC56 tA56 tB56 tW56 tWV56 tG56 tH56 tHV56
  refine (eqLin_same _ _ _ _ _ _ _ _ v _ (tHV57) (tWV57) (by omega) (by omega)).mono ?_; rintro e w58 ⟨rfl, f58⟩
  have b58 := b57.trans (f58.mono (by omega))
  have z58 := f58.size
  have cS058 := ck f58 cS057
  have cS158 := ck f58 cS157
  have cS258 := ck f58 cS257
  have cS358 := ck f58 cS357
  have cC058 := ck f58 cC057
  have cA058 := ck f58 cA057
  have cB058 := ck f58 cB057
  have cW058 := ck f58 cW057
  have cW158 := ck f58 cW157
  have cW258 := ck f58 cW257
  have cW358 := ck f58 cW357
  have cWV058 := ck f58 cWV057
  have cG058 := ck f58 cG057
  have cG158 := ck f58 cG157
  have cG258 := ck f58 cG257
  have cG358 := ck f58 cG357
  have cGV058 := ck f58 cGV057
  have cH058 := ck f58 cH057
  have cH158 := ck f58 cH157
  have cH258 := ck f58 cH257
  have cH358 := ck f58 cH357
  have cHV058 := ck f58 cHV057
  have tS58 := tS57.keep f58 (by omega)
  have tC58 := tC57.keep f58 (by omega)
  have tA58 := tA57.keep f58 (by omega)
  have tB58 := tB57.keep f58 (by omega)
  have tW58 := tW57.keep f58 (by omega)
  have tWV58 := tWV57.keep f58 (by omega)
  have tG58 := tG57.keep f58 (by omega)
  have tH58 := tH57.keep f58 (by omega)
  have tHV58 := tHV57.keep f58 (by omega)
  clear cS057 cS157 cS257 cS357 cC057 cA057 cB057 cW057 cW157 cW257 cW357 cWV057 cG057 cG157 cG257 cG357 cGV057 cH057 cH157 cH257 cH357 cHV057 tS57 tC57 tA57 tB57 tW57 tWV57 tG57 tH57 tHV57
  have lcS058 : w.heap.size < w58.heap.size := blt cS058
  have lcC058 : w.heap.size + 1 < w58.heap.size := blt cC058
  have lcA058 : w.heap.size + 1 + 1 < w58.heap.size := blt cA058
  have lcB058 : w.heap.size + 1 + 1 + 1 < w58.heap.size := blt cB058
  have lcW058 : gAW < w58.heap.size := blt cW058
  have lcWV058 : gBW < w58.heap.size := blt cWV058
  have lcG058 : w20.heap.size < w58.heap.size := blt cG058
  have lcGV058 : w20.heap.size + 1 < w58.heap.size := blt cGV058
  have lcH058 : gAH < w58.heap.size := blt cH058
  have lcHV058 : gBH < w58.heap.size := blt cHV058
  go_wp2_with fail
  refine name_call fun w59 hw59 => ?_
  have b59 : Below w.heap.size w w59 := by rw [hw59]; (repeat (with_reducible first | exact bR _ _ | assumption | refine bD ?_ | refine bN ?_ _ | refine bA ?_ _ | refine bS ?_ _))
  have z59 : w58.heap.size + 0 ≤ w59.heap.size := by rw [hw59]; simp
  have e59 : Below w58.heap.size w58 w59 := by rw [hw59]; (repeat (with_reducible first | exact bR _ _ | assumption | refine bD ?_ | refine bN ?_ _ | refine bA ?_ _ | refine bS ?_ _))
  have cS059 := ck e59 cS058
  have cS159 := ck e59 cS158
  have cS259 := ck e59 cS258
  have cS359 := ck e59 cS358
  have cC059 := ck e59 cC058
  have cA059 := ck e59 cA058
  have cB059 := ck e59 cB058
  have cW059 := ck e59 cW058
  have cW159 := ck e59 cW158
  have cW259 := ck e59 cW258
  have cW359 := ck e59 cW358
  have cWV059 := ck e59 cWV058
  have cG059 := ck e59 cG058
  have cG159 := ck e59 cG158
  have cG259 := ck e59 cG258
  have cG359 := ck e59 cG358
  have cGV059 := ck e59 cGV058
  have cH059 := ck e59 cH058
  have cH159 := ck e59 cH158
  have cH259 := ck e59 cH258
  have cH359 := ck e59 cH358
  have cHV059 := ck e59 cHV058
  have tS59 := tS58.keep e59 (by omega)
  have tC59 := tC58.keep e59 (by omega)
  have tA59 := tA58.keep e59 (by omega)
  have tB59 := tB58.keep e59 (by omega)
  have tW59 := tW58.keep e59 (by omega)
  have tWV59 := tWV58.keep e59 (by omega)
  have tG59 := tG58.keep e59 (by omega)
  have tH59 := tH58.keep e59 (by omega)
  have tHV59 := tHV58.keep e59 (by omega)
  clear hw59 lcS058 lcC058 lcA058 lcB058 lcW058 lcWV058 lcG058 lcGV058 lcH058 lcHV058 cS058 cS158 cS258 cS358 cC058 cA058 cB058 cW058 cW158 cW258 cW358 cWV058 cG058 cG158 cG258 cG358 cGV058 cH058 cH158 cH258 cH358 cHV058 tS58 tC58 tA58 tB58 tW58 tWV58 tG58 tH58 tHV58
  refine (heldSys_any _ _ _ _ _ _ _ r 1 _ (tG59.sys) (by omega) (by omega)).mono ?_; rintro e w60 ⟨rfl, f60⟩
  have b60 := b59.trans (f60.mono (by omega))
  have z60 := f60.size
  have cS060 := ck f60 cS059
  have cS160 := ck f60 cS159
  have cS260 := ck f60 cS259
  have cS360 := ck f60 cS359
  have cC060 := ck f60 cC059
  have cA060 := ck f60 cA059
  have cB060 := ck f60 cB059
  have cW060 := ck f60 cW059
  have cW160 := ck f60 cW159
  have cW260 := ck f60 cW259
  have cW360 := ck f60 cW359
  have cWV060 := ck f60 cWV059
  have cG060 := ck f60 cG059
  have cG160 := ck f60 cG159
  have cG260 := ck f60 cG259
  have cG360 := ck f60 cG359
  have cGV060 := ck f60 cGV059
  have cH060 := ck f60 cH059
  have cH160 := ck f60 cH159
  have cH260 := ck f60 cH259
  have cH360 := ck f60 cH359
  have cHV060 := ck f60 cHV059
  have tS60 := tS59.keep f60 (by omega)
  have tC60 := tC59.keep f60 (by omega)
  have tA60 := tA59.keep f60 (by omega)
  have tB60 := tB59.keep f60 (by omega)
  have tW60 := tW59.keep f60 (by omega)
  have tWV60 := tWV59.keep f60 (by omega)
  have tG60 := tG59.keep f60 (by omega)
  have tH60 := tH59.keep f60 (by omega)
  have tHV60 := tHV59.keep f60 (by omega)
  clear cS059 cS159 cS259 cS359 cC059 cA059 cB059 cW059 cW159 cW259 cW359 cWV059 cG059 cG159 cG259 cG359 cGV059 cH059 cH159 cH259 cH359 cHV059 tS59 tC59 tA59 tB59 tW59 tWV59 tG59 tH59 tHV59
  have lcS060 : w.heap.size < w60.heap.size := blt cS060
  have lcC060 : w.heap.size + 1 < w60.heap.size := blt cC060
  have lcA060 : w.heap.size + 1 + 1 < w60.heap.size := blt cA060
  have lcB060 : w.heap.size + 1 + 1 + 1 < w60.heap.size := blt cB060
  have lcW060 : gAW < w60.heap.size := blt cW060
  have lcWV060 : gBW < w60.heap.size := blt cWV060
  have lcG060 : w20.heap.size < w60.heap.size := blt cG060
  have lcGV060 : w20.heap.size + 1 < w60.heap.size := blt cGV060
  have lcH060 : gAH < w60.heap.size := blt cH060
  have lcHV060 : gBH < w60.heap.size := blt cHV060
  go_wp2_with fail
  refine name_call fun w61 hw61 => ?_
  have b61 : Below w.heap.size w w61 := by rw [hw61]; (repeat (with_reducible first | exact bR _ _ | assumption | refine bD ?_ | refine bN ?_ _ | refine bA ?_ _ | refine bS ?_ _))
  have z61 : w60.heap.size + 0 ≤ w61.heap.size := by rw [hw61]; simp
  have e61 : Below w60.heap.size w60 w61 := by rw [hw61]; (repeat (with_reducible first | exact bR _ _ | assumption | refine bD ?_ | refine bN ?_ _ | refine bA ?_ _ | refine bS ?_ _))
  have cS061 := ck e61 cS060
  have cS161 := ck e61 cS160
  have cS261 := ck e61 cS260
  have cS361 := ck e61 cS360
  have cC061 := ck e61 cC060
  have cA061 := ck e61 cA060
  have cB061 := ck e61 cB060
  have cW061 := ck e61 cW060
  have cW161 := ck e61 cW160
  have cW261 := ck e61 cW260
  have cW361 := ck e61 cW360
  have cWV061 := ck e61 cWV060
  have cG061 := ck e61 cG060
  have cG161 := ck e61 cG160
  have cG261 := ck e61 cG260
  have cG361 := ck e61 cG360
  have cGV061 := ck e61 cGV060
  have cH061 := ck e61 cH060
  have cH161 := ck e61 cH160
  have cH261 := ck e61 cH260
  have cH361 := ck e61 cH360
  have cHV061 := ck e61 cHV060
  have tS61 := tS60.keep e61 (by omega)
  have tC61 := tC60.keep e61 (by omega)
  have tA61 := tA60.keep e61 (by omega)
  have tB61 := tB60.keep e61 (by omega)
  have tW61 := tW60.keep e61 (by omega)
  have tWV61 := tWV60.keep e61 (by omega)
  have tG61 := tG60.keep e61 (by omega)
  have tH61 := tH60.keep e61 (by omega)
  have tHV61 := tHV60.keep e61 (by omega)
  clear hw61 lcS060 lcC060 lcA060 lcB060 lcW060 lcWV060 lcG060 lcGV060 lcH060 lcHV060 cS060 cS160 cS260 cS360 cC060 cA060 cB060 cW060 cW160 cW260 cW360 cWV060 cG060 cG160 cG260 cG360 cGV060 cH060 cH160 cH260 cH360 cHV060 tS60 tC60 tA60 tB60 tW60 tWV60 tG60 tH60 tHV60
  refine (heldLin_any _ _ _ _ v.length (1 + totS r) _ (tG61.snd) (by omega) (by omega) (by omega)).mono ?_; rintro e w62 ⟨rfl, f62⟩
  have b62 := b61.trans (f62.mono (by omega))
  have z62 := f62.size
  have cS062 := ck f62 cS061
  have cS162 := ck f62 cS161
  have cS262 := ck f62 cS261
  have cS362 := ck f62 cS361
  have cC062 := ck f62 cC061
  have cA062 := ck f62 cA061
  have cB062 := ck f62 cB061
  have cW062 := ck f62 cW061
  have cW162 := ck f62 cW161
  have cW262 := ck f62 cW261
  have cW362 := ck f62 cW361
  have cWV062 := ck f62 cWV061
  have cG062 := ck f62 cG061
  have cG162 := ck f62 cG161
  have cG262 := ck f62 cG261
  have cG362 := ck f62 cG361
  have cGV062 := ck f62 cGV061
  have cH062 := ck f62 cH061
  have cH162 := ck f62 cH161
  have cH262 := ck f62 cH261
  have cH362 := ck f62 cH361
  have cHV062 := ck f62 cHV061
  have tS62 := tS61.keep f62 (by omega)
  have tC62 := tC61.keep f62 (by omega)
  have tA62 := tA61.keep f62 (by omega)
  have tB62 := tB61.keep f62 (by omega)
  have tW62 := tW61.keep f62 (by omega)
  have tWV62 := tWV61.keep f62 (by omega)
  have tG62 := tG61.keep f62 (by omega)
  have tH62 := tH61.keep f62 (by omega)
  have tHV62 := tHV61.keep f62 (by omega)
  clear cS061 cS161 cS261 cS361 cC061 cA061 cB061 cW061 cW161 cW261 cW361 cWV061 cG061 cG161 cG261 cG361 cGV061 cH061 cH161 cH261 cH361 cHV061 tS61 tC61 tA61 tB61 tW61 tWV61 tG61 tH61 tHV61
  go_wp2_with fail
  go_ret
  exact ⟨rfl, b62⟩
end Go.Proofs.Ytfkffadpnhfiaaa.L
