/- Exact laws of functions that add to a system (written by tools/lawadd.py): the program's function and its model return the same, write into no argument, and own what they return. -/
import Derived.Test.YtklcgclaeafoeaaGreatE5m
import Derived.Test.YtklcgclaeafoeaaGreatAddLess
import Derived.Test.YtklcgclaeafoeaaGreatMAddLess
import Derived.Test.YtklcgclaeafoeaaGreatMAddZ
import Derived.Test.YtklcgclaeafoeaaGreatLessP
import Derived.Test.YtklcgclaeafoeaaGreatRgn
import Derived.Test.YtklcgclaeafoeaaGreatB2
import Derived.Test.YtklcgclaeafoeaaGreatB3
import Derived.Deep.DeepCutAuto
namespace Go.Proofs.YtklcgclaeafoeaaGreat.L
open Go.RowKit Go.Proofs.YtklcgclaeafoeaaGreat.S
set_option linter.unusedVariables false
set_option linter.unusedSimpArgs false

theorem totK2 (s : SysC) (x : List T) (hx : x.length ≤ 7000) : ∀ k, totS (bitsK s x k).1 ≤ totS s + k * 14040 := by
 intro k
 induction k with
 | zero => exact Nat.le_add_right _ _
 | succ k ih =>
  simp only [bitsK, boolS]
  rw [totS_con, totS_hint]
  have h1 := mrg_length 2147483646 (sVar (bitsK s x k).1) (constOf 1)
  have h2 := constOf_len 1
  have h3 : (sVar (bitsK s x k).1).length = 1 := rfl
  simp only [fH, fC, List.length_nil]
  omega
theorem size_less {s r : SysC} {x y : List T} {q : Int} {n : Nat} {m k : Bool} (hn : 1 ≤ q ∧ q ≤ 29 → q = (n : Int) ∧ n ≤ 29) (hm : m = (decide (1 ≤ q ∧ q ≤ 29) && mayL s [x, y])) (hr : r = if m = true then (if k = true then lessS s x y n else s) else sys0) : totS r ≤ totS s + 500000 :=
 size_of2 hr fun e => by
  rw [e] at hm
  have hm' := hm.symm
  rw [Bool.and_eq_true] at hm'
  obtain ⟨e1, e2⟩ := hm'
  obtain ⟨-, hn2⟩ := hn (of_decide_eq_true e1)
  have h3 := may_len e2 (show x ∈ [x, y] by simp)
  have h3' := may_len e2 (show y ∈ [x, y] by simp)
  have hD := lessD_len x y n
  have h4 := totK2 s (lessD x y n) (by omega) (n + 1)
  have h5 : (packS (bitsK s (lessD x y n) (n + 1)).2).length ≤ 30 := Nat.le_trans (packS_len fun b h => by rw [bitsK_one s (lessD x y n) (n + 1) b h]; exact Nat.le_refl _) (by rw [bitsK_len]; omega)
  have h6 := mrg_length 2147483646 (packS (bitsK s (lessD x y n) (n + 1)).2) (lessD x y n)
  have h7 := constOf_len 1
  unfold lessS bitsS eqS
  rw [totS_con]
  simp only [fC, List.length_nil]
  omega
set_option maxRecDepth 100000 in
set_option maxHeartbeats 12800000 in
theorem law_FnExactAddLess (viS voS vhS vcS : Value) (sS : SysC) (vA : Value) (tsA : List T) (vB : Value) (tsB : List T) (nN : Int) (w : World) (hS : SysR false 0 w.heap.size w viS voS vhS vcS sS) (hA : Terms false 0 w.heap.size w vA tsA) (hB : Terms false 0 w.heap.size w vB tsB) (lN : -9223372036854775808 ≤ nN) (hN : nN ≤ 9223372036854775807) :
  Calls Tryz.prog 3 #[.agg #[viS, voS, vhS, vcS], .agg #[vA], .agg #[vB], .int .i64 nN] w fun e w' => e = .returned (.bool true) ∧ Below w.heap.size w w' := by
 obtain ⟨aoS, koS, ahS, khS, acS, kcS, rfl, rfl, rfl, rfl, loS, boS, lhS, bhS, lcS, bcS, fiS⟩ := id hS.shape
 obtain ⟨aA, kA, rfl, laA, baA⟩ := id hA.shape
 obtain ⟨aB, kB, rfl, laB, baB⟩ := id hB.shape
 by_cases hlS : szS sS ≤ 1048576
 case' neg =>
  go_enter Tryz.func3, Tryz.ntmps3
  go_wp2_with fail
  refine name_call fun w1 hw1 => ?_
  have b1 : Below w.heap.size w w1 := by rw [hw1]; (repeat (with_reducible first | exact bR _ _ | assumption | refine bD ?_ | refine bN ?_ _ | refine bA ?_ _ | refine bS ?_ _))
  have z1 : w.heap.size + 3 ≤ w1.heap.size := by rw [hw1]; simp
  have e1 : Below w.heap.size w w1 := by rw [hw1]; (repeat (with_reducible first | exact bR _ _ | assumption | refine bD ?_ | refine bN ?_ _ | refine bA ?_ _ | refine bS ?_ _))
  have cS01 : w1.cell? ⟨w.heap.size, 0, none⟩ = some (.int .i64 sS.ins) := by rw [hw1]; first | (simp; done) | go_simp
  have cS11 : w1.cell? ⟨w.heap.size, 1, none⟩ = some (.slice aoS sS.outs.length koS) := by rw [hw1]; first | (simp; done) | go_simp
  have cS21 : w1.cell? ⟨w.heap.size, 2, none⟩ = some (.slice ahS sS.hints.length khS) := by rw [hw1]; first | (simp; done) | go_simp
  have cS31 : w1.cell? ⟨w.heap.size, 3, none⟩ = some (.slice acS sS.cons.length kcS) := by rw [hw1]; first | (simp; done) | go_simp
  have cA01 : w1.cell? ⟨w.heap.size + 1, 0, none⟩ = some (.slice aA tsA.length kA) := by rw [hw1]; first | (simp; done) | go_simp
  have cB01 : w1.cell? ⟨w.heap.size + 1 + 1, 0, none⟩ = some (.slice aB tsB.length kB) := by rw [hw1]; first | (simp; done) | go_simp
  have tS1 := hS.keep e1 (by omega)
  have tA1 := hA.keep e1 (by omega)
  have tB1 := hB.keep e1 (by omega)
  clear hw1
  refine (szSys_no false 0 w.heap.size _ _ _ _ sS 1048576 _ tS1 (by omega) (by omega) (by omega) (by omega)).mono ?_; rintro e w2 ⟨rfl, f2⟩
  have b2 := b1.trans (f2.mono (by omega))
  have z2 := f2.size
  have cS02 := ck f2 cS01
  have cS12 := ck f2 cS11
  have cS22 := ck f2 cS21
  have cS32 := ck f2 cS31
  have cA02 := ck f2 cA01
  have cB02 := ck f2 cB01
  have tS2 := tS1.keep f2 (by omega)
  have tA2 := tA1.keep f2 (by omega)
  have tB2 := tB1.keep f2 (by omega)
  clear cS01 cS11 cS21 cS31 cA01 cB01 tS1 tA1 tB1
  go_wp2_with fail
  go_ret
  exact ⟨rfl, b2⟩
 have hS0 : szLs sS.outs + szHs sS.hints + szCs sS.cons = szS sS := rfl
 have q0 : 0 ≤ (1048576 : Int) - szLs sS.outs - szHs sS.hints - szCs sS.cons := by omega
 by_cases hlA : szS sS + tsA.length ≤ 1048576
 case' neg =>
  go_enter Tryz.func3, Tryz.ntmps3
  go_wp2_with fail
  refine name_call fun w1 hw1 => ?_
  have b1 : Below w.heap.size w w1 := by rw [hw1]; (repeat (with_reducible first | exact bR _ _ | assumption | refine bD ?_ | refine bN ?_ _ | refine bA ?_ _ | refine bS ?_ _))
  have z1 : w.heap.size + 3 ≤ w1.heap.size := by rw [hw1]; simp
  have e1 : Below w.heap.size w w1 := by rw [hw1]; (repeat (with_reducible first | exact bR _ _ | assumption | refine bD ?_ | refine bN ?_ _ | refine bA ?_ _ | refine bS ?_ _))
  have cS01 : w1.cell? ⟨w.heap.size, 0, none⟩ = some (.int .i64 sS.ins) := by rw [hw1]; first | (simp; done) | go_simp
  have cS11 : w1.cell? ⟨w.heap.size, 1, none⟩ = some (.slice aoS sS.outs.length koS) := by rw [hw1]; first | (simp; done) | go_simp
  have cS21 : w1.cell? ⟨w.heap.size, 2, none⟩ = some (.slice ahS sS.hints.length khS) := by rw [hw1]; first | (simp; done) | go_simp
  have cS31 : w1.cell? ⟨w.heap.size, 3, none⟩ = some (.slice acS sS.cons.length kcS) := by rw [hw1]; first | (simp; done) | go_simp
  have cA01 : w1.cell? ⟨w.heap.size + 1, 0, none⟩ = some (.slice aA tsA.length kA) := by rw [hw1]; first | (simp; done) | go_simp
  have cB01 : w1.cell? ⟨w.heap.size + 1 + 1, 0, none⟩ = some (.slice aB tsB.length kB) := by rw [hw1]; first | (simp; done) | go_simp
  have tS1 := hS.keep e1 (by omega)
  have tA1 := hA.keep e1 (by omega)
  have tB1 := hB.keep e1 (by omega)
  clear hw1
  have hS0 : szLs sS.outs + szHs sS.hints + szCs sS.cons = szS sS := rfl
  refine (szSys_ok false 0 w.heap.size _ _ _ _ sS 1048576 _ tS1 (by omega) (by omega) (by omega) (by omega)).mono ?_; rintro e w2 ⟨rfl, f2⟩
  have b2 := b1.trans (f2.mono (by omega))
  have z2 := f2.size
  have cS02 := ck f2 cS01
  have cS12 := ck f2 cS11
  have cS22 := ck f2 cS21
  have cS32 := ck f2 cS31
  have cA02 := ck f2 cA01
  have cB02 := ck f2 cB01
  have tS2 := tS1.keep f2 (by omega)
  have tA2 := tA1.keep f2 (by omega)
  have tB2 := tB1.keep f2 (by omega)
  clear cS01 cS11 cS21 cS31 cA01 cB01 tS1 tA1 tB1
  have lcS02 : w.heap.size < w2.heap.size := blt cS02
  have lcA02 : w.heap.size + 1 < w2.heap.size := blt cA02
  have lcB02 : w.heap.size + 1 + 1 < w2.heap.size := blt cB02
  go_wp2_with fail
  refine name_call fun w3 hw3 => ?_
  have b3 : Below w.heap.size w w3 := by rw [hw3]; (repeat (with_reducible first | exact bR _ _ | assumption | refine bD ?_ | refine bN ?_ _ | refine bA ?_ _ | refine bS ?_ _))
  have z3 : w2.heap.size + 0 ≤ w3.heap.size := by rw [hw3]; simp
  have e3 : Below w2.heap.size w2 w3 := by rw [hw3]; (repeat (with_reducible first | exact bR _ _ | assumption | refine bD ?_ | refine bN ?_ _ | refine bA ?_ _ | refine bS ?_ _))
  have cS03 := ck e3 cS02
  have cS13 := ck e3 cS12
  have cS23 := ck e3 cS22
  have cS33 := ck e3 cS32
  have cA03 := ck e3 cA02
  have cB03 := ck e3 cB02
  have tS3 := tS2.keep e3 (by omega)
  have tA3 := tA2.keep e3 (by omega)
  have tB3 := tB2.keep e3 (by omega)
  clear hw3 lcS02 lcA02 lcB02 cS02 cS12 cS22 cS32 cA02 cB02 tS2 tA2 tB2
  refine (szLin_no false 0 w.heap.size _ tsA _ _ tA3 (by omega) (by omega) (by omega) (by omega)).mono ?_; rintro e w4 ⟨rfl, f4⟩
  have b4 := b3.trans (f4.mono (by omega))
  have z4 := f4.size
  have cS04 := ck f4 cS03
  have cS14 := ck f4 cS13
  have cS24 := ck f4 cS23
  have cS34 := ck f4 cS33
  have cA04 := ck f4 cA03
  have cB04 := ck f4 cB03
  have tS4 := tS3.keep f4 (by omega)
  have tA4 := tA3.keep f4 (by omega)
  have tB4 := tB3.keep f4 (by omega)
  clear cS03 cS13 cS23 cS33 cA03 cB03 tS3 tA3 tB3
  go_wp2_with fail
  go_ret
  exact ⟨rfl, b4⟩
 have q1 : 0 ≤ (1048576 : Int) - szLs sS.outs - szHs sS.hints - szCs sS.cons - tsA.length := by omega
 by_cases hlB : szS sS + tsA.length + tsB.length ≤ 1048576
 case' neg =>
  go_enter Tryz.func3, Tryz.ntmps3
  go_wp2_with fail
  refine name_call fun w1 hw1 => ?_
  have b1 : Below w.heap.size w w1 := by rw [hw1]; (repeat (with_reducible first | exact bR _ _ | assumption | refine bD ?_ | refine bN ?_ _ | refine bA ?_ _ | refine bS ?_ _))
  have z1 : w.heap.size + 3 ≤ w1.heap.size := by rw [hw1]; simp
  have e1 : Below w.heap.size w w1 := by rw [hw1]; (repeat (with_reducible first | exact bR _ _ | assumption | refine bD ?_ | refine bN ?_ _ | refine bA ?_ _ | refine bS ?_ _))
  have cS01 : w1.cell? ⟨w.heap.size, 0, none⟩ = some (.int .i64 sS.ins) := by rw [hw1]; first | (simp; done) | go_simp
  have cS11 : w1.cell? ⟨w.heap.size, 1, none⟩ = some (.slice aoS sS.outs.length koS) := by rw [hw1]; first | (simp; done) | go_simp
  have cS21 : w1.cell? ⟨w.heap.size, 2, none⟩ = some (.slice ahS sS.hints.length khS) := by rw [hw1]; first | (simp; done) | go_simp
  have cS31 : w1.cell? ⟨w.heap.size, 3, none⟩ = some (.slice acS sS.cons.length kcS) := by rw [hw1]; first | (simp; done) | go_simp
  have cA01 : w1.cell? ⟨w.heap.size + 1, 0, none⟩ = some (.slice aA tsA.length kA) := by rw [hw1]; first | (simp; done) | go_simp
  have cB01 : w1.cell? ⟨w.heap.size + 1 + 1, 0, none⟩ = some (.slice aB tsB.length kB) := by rw [hw1]; first | (simp; done) | go_simp
  have tS1 := hS.keep e1 (by omega)
  have tA1 := hA.keep e1 (by omega)
  have tB1 := hB.keep e1 (by omega)
  clear hw1
  have hS0 : szLs sS.outs + szHs sS.hints + szCs sS.cons = szS sS := rfl
  refine (szSys_ok false 0 w.heap.size _ _ _ _ sS 1048576 _ tS1 (by omega) (by omega) (by omega) (by omega)).mono ?_; rintro e w2 ⟨rfl, f2⟩
  have b2 := b1.trans (f2.mono (by omega))
  have z2 := f2.size
  have cS02 := ck f2 cS01
  have cS12 := ck f2 cS11
  have cS22 := ck f2 cS21
  have cS32 := ck f2 cS31
  have cA02 := ck f2 cA01
  have cB02 := ck f2 cB01
  have tS2 := tS1.keep f2 (by omega)
  have tA2 := tA1.keep f2 (by omega)
  have tB2 := tB1.keep f2 (by omega)
  clear cS01 cS11 cS21 cS31 cA01 cB01 tS1 tA1 tB1
  have lcS02 : w.heap.size < w2.heap.size := blt cS02
  have lcA02 : w.heap.size + 1 < w2.heap.size := blt cA02
  have lcB02 : w.heap.size + 1 + 1 < w2.heap.size := blt cB02
  go_wp2_with fail
  refine name_call fun w3 hw3 => ?_
  have b3 : Below w.heap.size w w3 := by rw [hw3]; (repeat (with_reducible first | exact bR _ _ | assumption | refine bD ?_ | refine bN ?_ _ | refine bA ?_ _ | refine bS ?_ _))
  have z3 : w2.heap.size + 0 ≤ w3.heap.size := by rw [hw3]; simp
  have e3 : Below w2.heap.size w2 w3 := by rw [hw3]; (repeat (with_reducible first | exact bR _ _ | assumption | refine bD ?_ | refine bN ?_ _ | refine bA ?_ _ | refine bS ?_ _))
  have cS03 := ck e3 cS02
  have cS13 := ck e3 cS12
  have cS23 := ck e3 cS22
  have cS33 := ck e3 cS32
  have cA03 := ck e3 cA02
  have cB03 := ck e3 cB02
  have tS3 := tS2.keep e3 (by omega)
  have tA3 := tA2.keep e3 (by omega)
  have tB3 := tB2.keep e3 (by omega)
  clear hw3 lcS02 lcA02 lcB02 cS02 cS12 cS22 cS32 cA02 cB02 tS2 tA2 tB2
  refine (szLin_ok false 0 w.heap.size _ tsA _ _ tA3 (by omega) (by omega) (by omega)).mono ?_; rintro e w4 ⟨rfl, f4⟩
  have b4 := b3.trans (f4.mono (by omega))
  have z4 := f4.size
  have cS04 := ck f4 cS03
  have cS14 := ck f4 cS13
  have cS24 := ck f4 cS23
  have cS34 := ck f4 cS33
  have cA04 := ck f4 cA03
  have cB04 := ck f4 cB03
  have tS4 := tS3.keep f4 (by omega)
  have tA4 := tA3.keep f4 (by omega)
  have tB4 := tB3.keep f4 (by omega)
  clear cS03 cS13 cS23 cS33 cA03 cB03 tS3 tA3 tB3
  have lcS04 : w.heap.size < w4.heap.size := blt cS04
  have lcA04 : w.heap.size + 1 < w4.heap.size := blt cA04
  have lcB04 : w.heap.size + 1 + 1 < w4.heap.size := blt cB04
  go_wp2_with fail
  refine name_call fun w5 hw5 => ?_
  have b5 : Below w.heap.size w w5 := by rw [hw5]; (repeat (with_reducible first | exact bR _ _ | assumption | refine bD ?_ | refine bN ?_ _ | refine bA ?_ _ | refine bS ?_ _))
  have z5 : w4.heap.size + 0 ≤ w5.heap.size := by rw [hw5]; simp
  have e5 : Below w4.heap.size w4 w5 := by rw [hw5]; (repeat (with_reducible first | exact bR _ _ | assumption | refine bD ?_ | refine bN ?_ _ | refine bA ?_ _ | refine bS ?_ _))
  have cS05 := ck e5 cS04
  have cS15 := ck e5 cS14
  have cS25 := ck e5 cS24
  have cS35 := ck e5 cS34
  have cA05 := ck e5 cA04
  have cB05 := ck e5 cB04
  have tS5 := tS4.keep e5 (by omega)
  have tA5 := tA4.keep e5 (by omega)
  have tB5 := tB4.keep e5 (by omega)
  clear hw5 lcS04 lcA04 lcB04 cS04 cS14 cS24 cS34 cA04 cB04 tS4 tA4 tB4
  refine (szLin_no false 0 w.heap.size _ tsB _ _ tB5 (by omega) (by omega) (by omega) (by omega)).mono ?_; rintro e w6 ⟨rfl, f6⟩
  have b6 := b5.trans (f6.mono (by omega))
  have z6 := f6.size
  have cS06 := ck f6 cS05
  have cS16 := ck f6 cS15
  have cS26 := ck f6 cS25
  have cS36 := ck f6 cS35
  have cA06 := ck f6 cA05
  have cB06 := ck f6 cB05
  have tS6 := tS5.keep f6 (by omega)
  have tA6 := tA5.keep f6 (by omega)
  have tB6 := tB5.keep f6 (by omega)
  clear cS05 cS15 cS25 cS35 cA05 cB05 tS5 tA5 tB5
  go_wp2_with fail
  go_ret
  exact ⟨rfl, b6⟩
 have q2 : 0 ≤ (1048576 : Int) - szLs sS.outs - szHs sS.hints - szCs sS.cons - tsA.length - tsB.length := by omega
 have sm : Small sS := small_of (by omega)
 have hT : totS sS ≤ 2 * szS sS := totS_le sS
 obtain ⟨n, Hn⟩ : ∃ n : Nat, Hid (1 ≤ nN ∧ nN ≤ 29 → nN = (n : Int) ∧ n ≤ 29) := ⟨nN.toNat, Lib.hid (by omega)⟩
 obtain ⟨m, Hm⟩ : ∃ m, Hid (m = (decide (1 ≤ nN ∧ nN ≤ 29) && mayL sS [tsA, tsB])) := ⟨_, Lib.hid rfl⟩
 obtain ⟨ok, Ho1⟩ : ∃ ok, Hid (ok = (m && sysOk (lessS sS tsA tsB n))) := ⟨_, Lib.hid rfl⟩
 obtain ⟨r, Hr1⟩ : ∃ r, Hid (r = if m = true then (if sysOk (lessS sS tsA tsB n) = true then lessS sS tsA tsB n else sS) else sys0) := ⟨_, Lib.hid rfl⟩
 obtain ⟨v, Hv1⟩ : ∃ v, Hid (v = if (m && sysOk (lessS sS tsA tsB n)) = true then lessZ sS tsA tsB n else []) := ⟨_, Lib.hid rfl⟩
 obtain ⟨A1, A2, A3⟩ := addLess_answers sS tsA tsB nN n Hn.out m Hm.out
 have Ho : Hid (ok = (m && bOk (lessB sS ⟨[], [], 0⟩ tsA tsB n))) := Lib.hid (Ho1.out.trans A1.symm)
 have Hr : Hid (r = if m = true then bSys sS (lessB sS ⟨[], [], 0⟩ tsA tsB n) else sys0) := Lib.hid (Hr1.out.trans A2.symm)
 have Hv : Hid (v = if (m && bOk (lessB sS ⟨[], [], 0⟩ tsA tsB n)) = true then lessBZ sS ⟨[], [], 0⟩ tsA tsB n else []) := Lib.hid (Hv1.out.trans A3.symm)
 have hr1 := size_less Hn.out Hm.out Hr1.out
 have hr2 := len_of Hv1.out (lessZ_len2 sS tsA tsB n)
 clear A1 A2 A3
 go_enter Tryz.func3, Tryz.ntmps3
 go_wp2_with fail
 refine name_call fun w1 hw1 => ?_
 have b1 : Below w.heap.size w w1 := by rw [hw1]; (repeat (with_reducible first | exact bR _ _ | assumption | refine bD ?_ | refine bN ?_ _ | refine bA ?_ _ | refine bS ?_ _))
 have z1 : w.heap.size + 3 ≤ w1.heap.size := by rw [hw1]; simp
 have e1 : Below w.heap.size w w1 := by rw [hw1]; (repeat (with_reducible first | exact bR _ _ | assumption | refine bD ?_ | refine bN ?_ _ | refine bA ?_ _ | refine bS ?_ _))
 have cS01 : w1.cell? ⟨w.heap.size, 0, none⟩ = some (.int .i64 sS.ins) := by rw [hw1]; first | (simp; done) | go_simp
 have cS11 : w1.cell? ⟨w.heap.size, 1, none⟩ = some (.slice aoS sS.outs.length koS) := by rw [hw1]; first | (simp; done) | go_simp
 have cS21 : w1.cell? ⟨w.heap.size, 2, none⟩ = some (.slice ahS sS.hints.length khS) := by rw [hw1]; first | (simp; done) | go_simp
 have cS31 : w1.cell? ⟨w.heap.size, 3, none⟩ = some (.slice acS sS.cons.length kcS) := by rw [hw1]; first | (simp; done) | go_simp
 have cA01 : w1.cell? ⟨w.heap.size + 1, 0, none⟩ = some (.slice aA tsA.length kA) := by rw [hw1]; first | (simp; done) | go_simp
 have cB01 : w1.cell? ⟨w.heap.size + 1 + 1, 0, none⟩ = some (.slice aB tsB.length kB) := by rw [hw1]; first | (simp; done) | go_simp
 have tS1 := hS.keep e1 (by omega)
 have tA1 := hA.keep e1 (by omega)
 have tB1 := hB.keep e1 (by omega)
 clear hw1
 refine (szSys_ok false 0 w.heap.size _ _ _ _ sS 1048576 _ tS1 (by omega) (by omega) (by omega) (by omega)).mono ?_; rintro e w2 ⟨rfl, f2⟩
 have b2 := b1.trans (f2.mono (by omega))
 have z2 := f2.size
 have cS02 := ck f2 cS01
 have cS12 := ck f2 cS11
 have cS22 := ck f2 cS21
 have cS32 := ck f2 cS31
 have cA02 := ck f2 cA01
 have cB02 := ck f2 cB01
 have tS2 := tS1.keep f2 (by omega)
 have tA2 := tA1.keep f2 (by omega)
 have tB2 := tB1.keep f2 (by omega)
 clear cS01 cS11 cS21 cS31 cA01 cB01 tS1 tA1 tB1
 have lcS02 : w.heap.size < w2.heap.size := blt cS02
 have lcA02 : w.heap.size + 1 < w2.heap.size := blt cA02
 have lcB02 : w.heap.size + 1 + 1 < w2.heap.size := blt cB02
 go_wp2_with fail
 refine name_call fun w3 hw3 => ?_
 have b3 : Below w.heap.size w w3 := by rw [hw3]; (repeat (with_reducible first | exact bR _ _ | assumption | refine bD ?_ | refine bN ?_ _ | refine bA ?_ _ | refine bS ?_ _))
 have z3 : w2.heap.size + 0 ≤ w3.heap.size := by rw [hw3]; simp
 have e3 : Below w2.heap.size w2 w3 := by rw [hw3]; (repeat (with_reducible first | exact bR _ _ | assumption | refine bD ?_ | refine bN ?_ _ | refine bA ?_ _ | refine bS ?_ _))
 have cS03 := ck e3 cS02
 have cS13 := ck e3 cS12
 have cS23 := ck e3 cS22
 have cS33 := ck e3 cS32
 have cA03 := ck e3 cA02
 have cB03 := ck e3 cB02
 have tS3 := tS2.keep e3 (by omega)
 have tA3 := tA2.keep e3 (by omega)
 have tB3 := tB2.keep e3 (by omega)
 clear hw3 lcS02 lcA02 lcB02 cS02 cS12 cS22 cS32 cA02 cB02 tS2 tA2 tB2
 refine (szLin_ok false 0 w.heap.size _ tsA _ _ tA3 (by omega) (by omega) (by omega)).mono ?_; rintro e w4 ⟨rfl, f4⟩
 have b4 := b3.trans (f4.mono (by omega))
 have z4 := f4.size
 have cS04 := ck f4 cS03
 have cS14 := ck f4 cS13
 have cS24 := ck f4 cS23
 have cS34 := ck f4 cS33
 have cA04 := ck f4 cA03
 have cB04 := ck f4 cB03
 have tS4 := tS3.keep f4 (by omega)
 have tA4 := tA3.keep f4 (by omega)
 have tB4 := tB3.keep f4 (by omega)
 clear cS03 cS13 cS23 cS33 cA03 cB03 tS3 tA3 tB3
 have lcS04 : w.heap.size < w4.heap.size := blt cS04
 have lcA04 : w.heap.size + 1 < w4.heap.size := blt cA04
 have lcB04 : w.heap.size + 1 + 1 < w4.heap.size := blt cB04
 go_wp2_with fail
 refine name_call fun w5 hw5 => ?_
 have b5 : Below w.heap.size w w5 := by rw [hw5]; (repeat (with_reducible first | exact bR _ _ | assumption | refine bD ?_ | refine bN ?_ _ | refine bA ?_ _ | refine bS ?_ _))
 have z5 : w4.heap.size + 0 ≤ w5.heap.size := by rw [hw5]; simp
 have e5 : Below w4.heap.size w4 w5 := by rw [hw5]; (repeat (with_reducible first | exact bR _ _ | assumption | refine bD ?_ | refine bN ?_ _ | refine bA ?_ _ | refine bS ?_ _))
 have cS05 := ck e5 cS04
 have cS15 := ck e5 cS14
 have cS25 := ck e5 cS24
 have cS35 := ck e5 cS34
 have cA05 := ck e5 cA04
 have cB05 := ck e5 cB04
 have tS5 := tS4.keep e5 (by omega)
 have tA5 := tA4.keep e5 (by omega)
 have tB5 := tB4.keep e5 (by omega)
 clear hw5 lcS04 lcA04 lcB04 cS04 cS14 cS24 cS34 cA04 cB04 tS4 tA4 tB4
 refine (szLin_ok false 0 w.heap.size _ tsB _ _ tB5 (by omega) (by omega) (by omega)).mono ?_; rintro e w6 ⟨rfl, f6⟩
 have b6 := b5.trans (f6.mono (by omega))
 have z6 := f6.size
 have cS06 := ck f6 cS05
 have cS16 := ck f6 cS15
 have cS26 := ck f6 cS25
 have cS36 := ck f6 cS35
 have cA06 := ck f6 cA05
 have cB06 := ck f6 cB05
 have tS6 := tS5.keep f6 (by omega)
 have tA6 := tA5.keep f6 (by omega)
 have tB6 := tB5.keep f6 (by omega)
 clear cS05 cS15 cS25 cS35 cA05 cB05 tS5 tA5 tB5
 have lcS06 : w.heap.size < w6.heap.size := blt cS06
 have lcA06 : w.heap.size + 1 < w6.heap.size := blt cA06
 have lcB06 : w.heap.size + 1 + 1 < w6.heap.size := blt cB06
 go_wp2_with fail
 refine name_wp fun w7 hw7 => ?_
 have b7 : Below w.heap.size w w7 := by rw [hw7]; (repeat (with_reducible first | exact bR _ _ | assumption | refine bD ?_ | refine bN ?_ _ | refine bA ?_ _ | refine bS ?_ _))
 have z7 : w6.heap.size + 0 ≤ w7.heap.size := by rw [hw7]; simp
 have e7 : Below w6.heap.size w6 w7 := by rw [hw7]; (repeat (with_reducible first | exact bR _ _ | assumption | refine bD ?_ | refine bN ?_ _ | refine bA ?_ _ | refine bS ?_ _))
 have cS07 := ck e7 cS06
 have cS17 := ck e7 cS16
 have cS27 := ck e7 cS26
 have cS37 := ck e7 cS36
 have cA07 := ck e7 cA06
 have cB07 := ck e7 cB06
 have tS7 := tS6.keep e7 (by omega)
 have tA7 := tA6.keep e7 (by omega)
 have tB7 := tB6.keep e7 (by omega)
 clear hw7 lcS06 lcA06 lcB06 cS06 cS16 cS26 cS36 cA06 cB06 tS6 tA6 tB6
 have d0W : Below w7.heap.size w7 w7.drew := (Below.refl _ _).drew
 have zrW : w7.drew.heap.size = w7.heap.size := rfl
 have US := tS7.keep d0W (by omega)
 have UA := tA7.keep d0W (by omega)
 have UB := tB7.keep d0W (by omega)
 have GS0 : w7.drew.cell? ⟨w.heap.size, 0, none⟩ = some (.int .i64 sS.ins) := cell_keep d0W cS07
 have GS1 : w7.drew.cell? ⟨w.heap.size, 1, none⟩ = some (.slice aoS sS.outs.length koS) := cell_keep d0W cS17
 have GS2 : w7.drew.cell? ⟨w.heap.size, 2, none⟩ = some (.slice ahS sS.hints.length khS) := cell_keep d0W cS27
 have GS3 : w7.drew.cell? ⟨w.heap.size, 3, none⟩ = some (.slice acS sS.cons.length kcS) := cell_keep d0W cS37
 have GA0 : w7.drew.cell? ⟨w.heap.size + 1, 0, none⟩ = some (.slice aA tsA.length kA) := cell_keep d0W cA07
 have GB0 : w7.drew.cell? ⟨w.heap.size + 1 + 1, 0, none⟩ = some (.slice aB tsB.length kB) := cell_keep d0W cB07
 go_cut [10, 11, 12] (fun s10 s11 s12 wx => CutSL w7.drew r v ok s10 s11 s12 wx)
 case first =>
  rename_i J K' hJ hK
  refine wp_region_drawn [10, 11, 12, 40, 41, 42, 43, 44, 45, 46, 47, 48, 49, 50, 51] (fun d u wx => Below w7.drew.heap.size w7.drew wx ∧ (d 0 = true → u 41 = .agg #[.int .i64 sS.ins, .slice aoS sS.outs.length koS, .slice ahS sS.hints.length khS, .slice acS sS.cons.length kcS]) ∧ ArgSys (d 1) (d 7) sS (u 42) wx ∧ (d 2 = true → u 43 = .agg #[.slice aA tsA.length kA]) ∧ ArgLin (d 3) (d 7) tsA (u 44) wx ∧ (d 4 = true → u 45 = .agg #[.slice aB tsB.length kB]) ∧ ArgLin (d 5) (d 7) tsB (u 46) wx ∧ (d 6 = true → u 47 = .int .i64 nN) ∧ ResSL w7.drew r v ok (d 7) (d 8) (d 9) (d 10) (d 11) (d 12) (d 13) (d 14) (d 15) (d 16) (u 48) (u 40) (u 49) (u 50) (u 51) (u 10) (u 11) (u 12) wx) (by kernel_rfl) (by kernel_rfl) (by kernel_rfl) ?_ ?_ ?_
  ·intro u; exact ⟨Below.refl _ _, vac rfl, ArgSys.none, vac rfl, ArgLin.none, vac rfl, ArgLin.none, vac rfl, ResSL.start⟩
  ·refine ⟨?_, ?_, ?_, ?_, ?_, ?_, ?_, ?_, ?_, ?_, ?_, ?_, ?_, ?_, ?_, ?_, ?_, trivial⟩
   ·intro d u wx h0 hd hF
    obtain ⟨hb, f0, f1, f2, f3, f4, f5, f6, fR⟩ := hF
    have sz := hb.size
    refine Wpv.env fun ρ hin hout hcon hfun => ?_
    have E4 : ρ (.tmp 4) = .pointer (some ⟨w.heap.size, 0, none⟩) := (hout 4 (by kernel_rfl)).trans (by kernel_rfl)
    clear hin hout
    have c0 := cell_keep hb GS0
    have c1 := cell_keep hb GS1
    have c2 := cell_keep hb GS2
    have c3 := cell_keep hb GS3
    refine Wpv.value (v := .agg #[.int .i64 sS.ins, .slice aoS sS.outs.length koS, .slice ahS sS.hints.length khS, .slice acS sS.cons.length kcS]) (w' := wx) ?_ ⟨hb, fun _ => rfl, f1, f2, f3, f4, f5, f6, fR⟩
    clear f0 f1 f2 f3 f4 f5 f6 fR
    simp only [execOp]; rw [E4]; go_simp
   ·intro d u wx h0 hd hF
    obtain ⟨hb, f0, f1, f2, f3, f4, f5, f6, fR⟩ := hF
    have sz := hb.size
    refine Wpv.env fun ρ hin hout hcon hfun => ?_
    have E41 := hin 41 (by kernel_rfl)
    clear hin hout
    have e := E41.trans (f0 (hd.get (j := 0) (by kernel_rfl)))
    have t := US.keep hb (by omega)
    refine Wpv.enter (f := 7) (args := #[.agg #[.int .i64 sS.ins, .slice aoS sS.outs.length koS, .slice ahS sS.hints.length khS, .slice acS sS.cons.length kcS]]) (w' := wx) (by clear f0 f1 f2 f3 f4 f5 f6 fR t E41; go_simp) (toSys_any _ _ _ _ _ _ _ sS wx t (by omega) (by omega)) ?_
    rintro e' w' ⟨a1, a2, a3, rfl, j1, t1⟩
    exact ⟨_, rfl, ⟨hb.trans (j1.mono sz), f0, ArgSys.new t1, f2, f3.keep j1, f4, f5.keep j1, f6, fR.keep j1⟩⟩
   ·intro d u wx h0 hd hF
    obtain ⟨hb, f0, f1, f2, f3, f4, f5, f6, fR⟩ := hF
    have sz := hb.size
    refine Wpv.env fun ρ hin hout hcon hfun => ?_
    have E5 : ρ (.tmp 5) = .pointer (some ⟨w.heap.size + 1, 0, none⟩) := (hout 5 (by kernel_rfl)).trans (by kernel_rfl)
    clear hin hout
    have c0 := cell_keep hb GA0
    refine Wpv.value (v := .agg #[.slice aA tsA.length kA]) (w' := wx) ?_ ⟨hb, f0, f1, fun _ => rfl, f3, f4, f5, f6, fR⟩
    clear f0 f1 f2 f3 f4 f5 f6 fR
    simp only [execOp]; rw [E5]; go_simp
   ·intro d u wx h0 hd hF
    obtain ⟨hb, f0, f1, f2, f3, f4, f5, f6, fR⟩ := hF
    have sz := hb.size
    refine Wpv.env fun ρ hin hout hcon hfun => ?_
    have E43 := hin 43 (by kernel_rfl)
    clear hin hout
    have e := E43.trans (f2 (hd.get (j := 2) (by kernel_rfl)))
    have t := UA.keep hb (by omega)
    refine Wpv.enter (f := 8) (args := #[.agg #[.slice aA tsA.length kA]]) (w' := wx) (by clear f0 f1 f2 f3 f4 f5 f6 fR t E43; go_simp) (toLin_any _ _ _ _ tsA wx t (by omega) (by omega)) ?_
    rintro e' w' ⟨a1, rfl, j1, t1⟩
    exact ⟨_, rfl, ⟨hb.trans (j1.mono sz), f0, f1.keep j1, f2, ArgLin.new t1, f4, f5.keep j1, f6, fR.keep j1⟩⟩
   ·intro d u wx h0 hd hF
    obtain ⟨hb, f0, f1, f2, f3, f4, f5, f6, fR⟩ := hF
    have sz := hb.size
    refine Wpv.env fun ρ hin hout hcon hfun => ?_
    have E6 : ρ (.tmp 6) = .pointer (some ⟨w.heap.size + 1 + 1, 0, none⟩) := (hout 6 (by kernel_rfl)).trans (by kernel_rfl)
    clear hin hout
    have c0 := cell_keep hb GB0
    refine Wpv.value (v := .agg #[.slice aB tsB.length kB]) (w' := wx) ?_ ⟨hb, f0, f1, f2, f3, fun _ => rfl, f5, f6, fR⟩
    clear f0 f1 f2 f3 f4 f5 f6 fR
    simp only [execOp]; rw [E6]; go_simp
   ·intro d u wx h0 hd hF
    obtain ⟨hb, f0, f1, f2, f3, f4, f5, f6, fR⟩ := hF
    have sz := hb.size
    refine Wpv.env fun ρ hin hout hcon hfun => ?_
    have E45 := hin 45 (by kernel_rfl)
    clear hin hout
    have e := E45.trans (f4 (hd.get (j := 4) (by kernel_rfl)))
    have t := UB.keep hb (by omega)
    refine Wpv.enter (f := 8) (args := #[.agg #[.slice aB tsB.length kB]]) (w' := wx) (by clear f0 f1 f2 f3 f4 f5 f6 fR t E45; go_simp) (toLin_any _ _ _ _ tsB wx t (by omega) (by omega)) ?_
    rintro e' w' ⟨a1, rfl, j1, t1⟩
    exact ⟨_, rfl, ⟨hb.trans (j1.mono sz), f0, f1.keep j1, f2, f3.keep j1, f4, ArgLin.new t1, f6, fR.keep j1⟩⟩
   ·intro d u wx h0 hd hF
    obtain ⟨hb, f0, f1, f2, f3, f4, f5, f6, fR⟩ := hF
    have sz := hb.size
    refine Wpv.env fun ρ hin hout hcon hfun => ?_
    have E3 : ρ (.tmp 3) = .int .i64 nN := (hout 3 (by kernel_rfl)).trans (by kernel_rfl)
    clear hin hout
    exact Wpv.value (v := .int .i64 nN) (by simp only [execOp]; rw [E3]; rfl) ⟨hb, f0, f1, f2, f3, f4, f5, fun _ => rfl, fR⟩
   ·intro d u wx h0 hd hF
    obtain ⟨hb, f0, f1, f2, f3, f4, f5, f6, fR⟩ := hF
    have sz := hb.size
    refine Wpv.env fun ρ hin hout hcon hfun => ?_
    have E42 := hin 42 (by kernel_rfl)
    have E44 := hin 44 (by kernel_rfl)
    have E46 := hin 46 (by kernel_rfl)
    have E47 := hin 47 (by kernel_rfl)
    clear hin hout
    obtain ⟨x1S, x2S, x3S, e0S, tS⟩ := f1 (hd.get (j := 1) (by kernel_rfl)) h0
    have eS := E42.trans e0S
    obtain ⟨x1A, e0A, tA⟩ := f3 (hd.get (j := 3) (by kernel_rfl)) h0
    have eA := E44.trans e0A
    obtain ⟨x1B, e0B, tB⟩ := f5 (hd.get (j := 5) (by kernel_rfl)) h0
    have eB := E46.trans e0B
    have eN := E47.trans (f6 (hd.get (j := 6) (by kernel_rfl)))
    rw [h0] at fR
    refine Wpv.enter (f := 6) (args := #[.agg #[.int .i64 sS.ins, x1S, x2S, x3S], .agg #[x1A], .agg #[x1B], .int .i64 nN]) (w' := wx) (by clear E42 E44 E46 E47 tS tA tB e0S e0A e0B f0 f1 f2 f3 f4 f5 f6 fR; go_simp) (addLess_spec _ _ _ _ _ _ _ sS _ _ _ _ tsA _ _ _ _ tsB nN _ tS (Nat.le_refl _) sm tA (Nat.le_refl _) (by omega) tB (Nat.le_refl _) (by omega) _ (Lib.hid rfl) n Hn.out m Hm.out ok r v Ho1 Hr1 Hv1) ?_
    intro e' w' hq
    obtain ⟨uu, hu, j1, hr⟩ := ResSL.main fR hb hq
    exact ⟨uu, hu, ⟨hb.trans (j1.mono sz), f0, ArgSys.past, f2, ArgLin.past, f4, ArgLin.past, f6, hr⟩⟩
   ·intro d u wx h0 hd hF
    obtain ⟨hb, f0, f1, f2, f3, f4, f5, f6, fR⟩ := hF
    have sz := hb.size
    refine Wpv.env fun ρ hin hout hcon hfun => ?_
    have E48 := hin 48 (by kernel_rfl)
    clear hin hout
    exact Wpv.value (v := u 48) (by simp only [execOp]; rw [E48]; rfl) ⟨hb, f0, f1, f2, f3, f4, f5, f6, (ResSL.moveD (hd.get (j := 7) (by kernel_rfl)) fR)⟩
   ·intro d u wx h0 hd hF
    obtain ⟨hb, f0, f1, f2, f3, f4, f5, f6, fR⟩ := hF
    have sz := hb.size
    refine Wpv.env fun ρ hin hout hcon hfun => ?_
    have E40 := hin 40 (by kernel_rfl)
    clear hin hout
    have hm : d 8 = true := hd.get (j := 8) (by kernel_rfl)
    obtain ⟨x, y, b, e⟩ := ResSL.tupD hm fR
    have e1 := E40.trans e
    refine Wpv.value (v := x) (w' := wx) (by clear e E40 f0 f1 f2 f3 f4 f5 f6 fR; go_simp) ⟨hb, f0, f1, f2, f3, f4, f5, f6, (ResSL.ex0D hm e fR)⟩
   ·intro d u wx h0 hd hF
    obtain ⟨hb, f0, f1, f2, f3, f4, f5, f6, fR⟩ := hF
    have sz := hb.size
    refine Wpv.env fun ρ hin hout hcon hfun => ?_
    have E40 := hin 40 (by kernel_rfl)
    clear hin hout
    have hm : d 8 = true := hd.get (j := 8) (by kernel_rfl)
    obtain ⟨x, y, b, e⟩ := ResSL.tupD hm fR
    have e1 := E40.trans e
    refine Wpv.value (v := y) (w' := wx) (by clear e E40 f0 f1 f2 f3 f4 f5 f6 fR; go_simp) ⟨hb, f0, f1, f2, f3, f4, f5, f6, (ResSL.ex1D hm e fR)⟩
   ·intro d u wx h0 hd hF
    obtain ⟨hb, f0, f1, f2, f3, f4, f5, f6, fR⟩ := hF
    have sz := hb.size
    refine Wpv.env fun ρ hin hout hcon hfun => ?_
    have E40 := hin 40 (by kernel_rfl)
    clear hin hout
    have hm : d 8 = true := hd.get (j := 8) (by kernel_rfl)
    obtain ⟨x, y, b, e⟩ := ResSL.tupD hm fR
    have e1 := E40.trans e
    refine Wpv.value (v := b) (w' := wx) (by clear e E40 f0 f1 f2 f3 f4 f5 f6 fR; go_simp) ⟨hb, f0, f1, f2, f3, f4, f5, f6, (ResSL.ex2D hm e fR)⟩
   ·intro d u wx h0 hd hF
    obtain ⟨hb, f0, f1, f2, f3, f4, f5, f6, fR⟩ := hF
    have sz := hb.size
    refine Wpv.env fun ρ hin hout hcon hfun => ?_
    clear hin hout
    rw [h0] at fR
    have j1 : Below wx.heap.size wx (wx.alloc (.cells #[.int .i64 0, .slice none 0 0, .slice none 0 0, .slice none 0 0] 36)) := balloc (Nat.le_refl _) (Below.refl _ _) _
    refine Wpv.value (v := .pointer (some ⟨wx.heap.size, 0, none⟩)) (w' := wx.alloc (.cells #[.int .i64 0, .slice none 0 0, .slice none 0 0, .slice none 0 0] 36)) (by clear f0 f1 f2 f3 f4 f5 f6 fR; go_simp) ⟨hb.trans (j1.mono sz), f0, f1.keep j1, f2, f3.keep j1, f4, f5.keep j1, f6, fR.boxA hb⟩
   ·intro d u wx h0 hd hF
    obtain ⟨hb, f0, f1, f2, f3, f4, f5, f6, fR⟩ := hF
    have sz := hb.size
    refine Wpv.env fun ρ hin hout hcon hfun => ?_
    clear hin hout
    rw [h0] at fR
    have j1 : Below wx.heap.size wx (wx.alloc (.cells #[.slice none 0 0] 39)) := balloc (Nat.le_refl _) (Below.refl _ _) _
    refine Wpv.value (v := .pointer (some ⟨wx.heap.size, 0, none⟩)) (w' := wx.alloc (.cells #[.slice none 0 0] 39)) (by clear f0 f1 f2 f3 f4 f5 f6 fR; go_simp) ⟨hb.trans (j1.mono sz), f0, f1.keep j1, f2, f3.keep j1, f4, f5.keep j1, f6, fR.boxB hb⟩
   ·intro d u wx h0 hd hF
    obtain ⟨hb, f0, f1, f2, f3, f4, f5, f6, fR⟩ := hF
    have sz := hb.size
    refine Wpv.env fun ρ hin hout hcon hfun => ?_
    have E10 := hin 10 (by kernel_rfl)
    have E49 := hin 49 (by kernel_rfl)
    clear hin hout
    have m : d 7 = true := (ResSL.upD (Or.inl (hd.get (j := 9) (by kernel_rfl))) fR)
    obtain ⟨gg, n0, a1, n1, k1, a2, n2, k2, a3, n3, k3, z0, z1, z2, z3, e1, e2, fr, bx⟩ := ResSL.preAD (hd.get (j := 9) (by kernel_rfl)) (hd.get (j := 12) (by kernel_rfl)) fR
    obtain ⟨c0, c1, c2, c3⟩ := id bx
    obtain ⟨r0, r1, r2, r3⟩ := id fr
    obtain ⟨lg, fR'⟩ := ResSL.setAD (hd.get (j := 9) (by kernel_rfl)) (hd.get (j := 12) (by kernel_rfl)) e1 e2 fR
    have y1 := E10.trans e1
    have y2 := E49.trans e2
    refine Wpv.skip (w' := set4 wx gg (.int .i64 n0) (.slice a1 n1 k1) (.slice a2 n2 k2) (.slice a3 n3 k3)) (by unfold set4; clear fR' e1 e2 E10 E49 bx fr f0 f1 f2 f3 f4 f5 f6 fR; go_simp) ?_
    exact ⟨set4_below hb lg _ _ _ _, f0, ArgSys.pastD m, f2, ArgLin.pastD m, f4, ArgLin.pastD m, f6, fR'⟩
   ·intro d u wx h0 hd hF
    obtain ⟨hb, f0, f1, f2, f3, f4, f5, f6, fR⟩ := hF
    have sz := hb.size
    refine Wpv.env fun ρ hin hout hcon hfun => ?_
    have E11 := hin 11 (by kernel_rfl)
    have E50 := hin 50 (by kernel_rfl)
    clear hin hout
    have m : d 7 = true := (ResSL.upD (Or.inr (hd.get (j := 10) (by kernel_rfl))) fR)
    obtain ⟨gg, a1, n1, k1, z0, e1, e2, r0, c0⟩ := ResSL.preBD (hd.get (j := 10) (by kernel_rfl)) (hd.get (j := 13) (by kernel_rfl)) fR
    obtain ⟨lg, fR'⟩ := ResSL.setBD (hd.get (j := 10) (by kernel_rfl)) (hd.get (j := 13) (by kernel_rfl)) e1 e2 fR
    have y1 := E11.trans e1
    have y2 := E50.trans e2
    refine Wpv.skip (w' := wx.setCell ⟨gg, 0, none⟩ (.slice a1 n1 k1)) (by clear fR' e1 e2 E11 E50 f0 f1 f2 f3 f4 f5 f6 fR; go_simp) ?_
    exact ⟨bset lg hb _, f0, ArgSys.pastD m, f2, ArgLin.pastD m, f4, ArgLin.pastD m, f6, fR'⟩
   ·intro d u wx h0 hd hF
    obtain ⟨hb, f0, f1, f2, f3, f4, f5, f6, fR⟩ := hF
    have sz := hb.size
    refine Wpv.env fun ρ hin hout hcon hfun => ?_
    have E51 := hin 51 (by kernel_rfl)
    clear hin hout
    exact Wpv.value (v := u 51) (by simp only [execOp]; rw [E51]; rfl) ⟨hb, f0, f1, f2, f3, f4, f5, f6, (ResSL.finD (hd.get (j := 11) (by kernel_rfl)) fR)⟩
  ·intro d u wx hall hF
   obtain ⟨hb, f0, f1, f2, f3, f4, f5, f6, fR⟩ := hF
   have fC := ResSL.cutD fR hb (hall 7 (by decide)) (hall 12 (by decide)) (hall 13 (by decide)) (hall 14 (by decide)) (hall 15 (by decide)) (hall 16 (by decide))
   clear f0 f1 f2 f3 f4 f5 f6 fR
   refine hK _ _ (Met.intro (hJ _ _ ?_))
   simp only [setF, List.foldl_cons, List.foldl_nil, Act.put, List.setIfInBounds_toArray, List.set_cons_zero, List.set_cons_succ]
   repeat apply Exists.intro
   exact ⟨fC, rfl⟩
 obtain ⟨gAW, gBW, ui, uo, uh, uc, uv, rfl, rfl, rfl, hgAW, hgBW, ⟨b0, b1, b2, b3⟩, b4, tW, tV, bW⟩ := hcut
 obtain ⟨aoW, koW, ahW, khW, acW, kcW, rfl, rfl, rfl, rfl, loW, boW, lhW, bhW, lcW, bcW, fiW⟩ := id tW.shape
 obtain ⟨aWV, kWV, rfl, laWV, baWV⟩ := id tV.shape
 obtain ⟨w8, hw8⟩ : ∃ x, x = wc := ⟨_, rfl⟩
 subst hw8
 have f8 : Below w7.heap.size w7 w8 := d0W.trans bW
 have b8 := b7.trans (f8.mono (by omega))
 have z8 := f8.size
 have cS08 := ck f8 cS07
 have cS18 := ck f8 cS17
 have cS28 := ck f8 cS27
 have cS38 := ck f8 cS37
 have cA08 := ck f8 cA07
 have cB08 := ck f8 cB07
 have tS8 := tS7.keep f8 (by omega)
 have tA8 := tA7.keep f8 (by omega)
 have tB8 := tB7.keep f8 (by omega)
 clear cS07 cS17 cS27 cS37 cA07 cB07 tS7 tA7 tB7 US UA UB GS0 GS1 GS2 GS3 GA0 GB0
 have b0W := b0; clear b0
 have b1W := b1; clear b1
 have b2W := b2; clear b2
 have b3W := b3; clear b3
 have lgAW : gAW < w8.heap.size := World.block_lt_of_cell? _ _ b0W
 have lgBW : gBW < w8.heap.size := World.block_lt_of_cell? _ _ b4
 have b4W := b4; clear b4
 have tW8 := tW; clear tW
 have tWV8 := tV; clear tV
 have lcS08 : w.heap.size < w8.heap.size := blt cS08
 have lcA08 : w.heap.size + 1 < w8.heap.size := blt cA08
 have lcB08 : w.heap.size + 1 + 1 < w8.heap.size := blt cB08
 have lb0W : gAW < w8.heap.size := blt b0W
 have lb4W : gBW < w8.heap.size := blt b4W
 go_wp2_with fail
 refine name_call fun w9 hw9 => ?_
 have b9 : Below w.heap.size w w9 := by rw [hw9]; (repeat (with_reducible first | exact bR _ _ | assumption | refine bD ?_ | refine bN ?_ _ | refine bA ?_ _ | refine bS ?_ _))
 have z9 : w8.heap.size + 0 ≤ w9.heap.size := by rw [hw9]; simp
 have e9 : Below w8.heap.size w8 w9 := by rw [hw9]; (repeat (with_reducible first | exact bR _ _ | assumption | refine bD ?_ | refine bN ?_ _ | refine bA ?_ _ | refine bS ?_ _))
 have cS09 := ck e9 cS08
 have cS19 := ck e9 cS18
 have cS29 := ck e9 cS28
 have cS39 := ck e9 cS38
 have cA09 := ck e9 cA08
 have cB09 := ck e9 cB08
 have cW09 := ck e9 b0W
 have cW19 := ck e9 b1W
 have cW29 := ck e9 b2W
 have cW39 := ck e9 b3W
 have cWV09 := ck e9 b4W
 have tS9 := tS8.keep e9 (by omega)
 have tA9 := tA8.keep e9 (by omega)
 have tB9 := tB8.keep e9 (by omega)
 have tW9 := tW8.keep e9 (by omega)
 have tWV9 := tWV8.keep e9 (by omega)
 clear hw9 lcS08 lcA08 lcB08 lb0W lb4W cS08 cS18 cS28 cS38 cA08 cB08 b0W b1W b2W b3W b4W tS8 tA8 tB8 tW8 tWV8
 refine (toSys_any _ _ _ _ _ _ _ sS _ tS9 (by omega) (by omega)).mono ?_; rintro e w10 ⟨uoxS, uhxS, ucxS, rfl, f10, q10⟩
 have b10 := b9.trans (f10.mono (by omega))
 have z10 := f10.size
 have cS010 := ck f10 cS09
 have cS110 := ck f10 cS19
 have cS210 := ck f10 cS29
 have cS310 := ck f10 cS39
 have cA010 := ck f10 cA09
 have cB010 := ck f10 cB09
 have cW010 := ck f10 cW09
 have cW110 := ck f10 cW19
 have cW210 := ck f10 cW29
 have cW310 := ck f10 cW39
 have cWV010 := ck f10 cWV09
 have tS10 := tS9.keep f10 (by omega)
 have tA10 := tA9.keep f10 (by omega)
 have tB10 := tB9.keep f10 (by omega)
 have tW10 := tW9.keep f10 (by omega)
 have tWV10 := tWV9.keep f10 (by omega)
 clear cS09 cS19 cS29 cS39 cA09 cB09 cW09 cW19 cW29 cW39 cWV09 tS9 tA9 tB9 tW9 tWV9
 obtain ⟨aoxS, koxS, ahxS, khxS, acxS, kcxS, -, rfl, rfl, rfl, loxS, boxS, lhxS, bhxS, lcxS, bcxS, -⟩ := id q10.shape
 have lcS010 : w.heap.size < w10.heap.size := blt cS010
 have lcA010 : w.heap.size + 1 < w10.heap.size := blt cA010
 have lcB010 : w.heap.size + 1 + 1 < w10.heap.size := blt cB010
 have lcW010 : gAW < w10.heap.size := blt cW010
 have lcWV010 : gBW < w10.heap.size := blt cWV010
 go_wp2_with fail
 refine name_call fun w11 hw11 => ?_
 have b11 : Below w.heap.size w w11 := by rw [hw11]; (repeat (with_reducible first | exact bR _ _ | assumption | refine bD ?_ | refine bN ?_ _ | refine bA ?_ _ | refine bS ?_ _))
 have z11 : w10.heap.size + 1 ≤ w11.heap.size := by rw [hw11]; simp
 have e11 : Below w10.heap.size w10 w11 := by rw [hw11]; (repeat (with_reducible first | exact bR _ _ | assumption | refine bD ?_ | refine bN ?_ _ | refine bA ?_ _ | refine bS ?_ _))
 have cS011 := ck e11 cS010
 have cS111 := ck e11 cS110
 have cS211 := ck e11 cS210
 have cS311 := ck e11 cS310
 have cA011 := ck e11 cA010
 have cB011 := ck e11 cB010
 have cW011 := ck e11 cW010
 have cW111 := ck e11 cW110
 have cW211 := ck e11 cW210
 have cW311 := ck e11 cW310
 have cWV011 := ck e11 cWV010
 have cxS011 : w11.cell? ⟨w10.heap.size, 0, none⟩ = some (.int .i64 sS.ins) := by rw [hw11]; first | (simp; done) | go_simp
 have cxS111 : w11.cell? ⟨w10.heap.size, 1, none⟩ = some (.slice aoxS sS.outs.length koxS) := by rw [hw11]; first | (simp; done) | go_simp
 have cxS211 : w11.cell? ⟨w10.heap.size, 2, none⟩ = some (.slice ahxS sS.hints.length khxS) := by rw [hw11]; first | (simp; done) | go_simp
 have cxS311 : w11.cell? ⟨w10.heap.size, 3, none⟩ = some (.slice acxS sS.cons.length kcxS) := by rw [hw11]; first | (simp; done) | go_simp
 have tS11 := tS10.keep e11 (by omega)
 have tA11 := tA10.keep e11 (by omega)
 have tB11 := tB10.keep e11 (by omega)
 have tW11 := tW10.keep e11 (by omega)
 have tWV11 := tWV10.keep e11 (by omega)
 have txS11 := q10.keep e11 (by omega)
 clear hw11 lcS010 lcA010 lcB010 lcW010 lcWV010 cS010 cS110 cS210 cS310 cA010 cB010 cW010 cW110 cW210 cW310 cWV010 tS10 tA10 tB10 tW10 tWV10
 refine (toLin_any _ _ _ _ tsA _ tA11 (by omega) (by omega)).mono ?_; rintro e w12 ⟨uxA, rfl, f12, q12⟩
 have b12 := b11.trans (f12.mono (by omega))
 have z12 := f12.size
 have cS012 := ck f12 cS011
 have cS112 := ck f12 cS111
 have cS212 := ck f12 cS211
 have cS312 := ck f12 cS311
 have cA012 := ck f12 cA011
 have cB012 := ck f12 cB011
 have cW012 := ck f12 cW011
 have cW112 := ck f12 cW111
 have cW212 := ck f12 cW211
 have cW312 := ck f12 cW311
 have cWV012 := ck f12 cWV011
 have cxS012 := ck f12 cxS011
 have cxS112 := ck f12 cxS111
 have cxS212 := ck f12 cxS211
 have cxS312 := ck f12 cxS311
 have tS12 := tS11.keep f12 (by omega)
 have tA12 := tA11.keep f12 (by omega)
 have tB12 := tB11.keep f12 (by omega)
 have tW12 := tW11.keep f12 (by omega)
 have tWV12 := tWV11.keep f12 (by omega)
 have txS12 := txS11.keep f12 (by omega)
 clear cS011 cS111 cS211 cS311 cA011 cB011 cW011 cW111 cW211 cW311 cWV011 cxS011 cxS111 cxS211 cxS311 tS11 tA11 tB11 tW11 tWV11 txS11
 obtain ⟨axA, kxA, rfl, laxA, baxA⟩ := id q12.shape
 have lcS012 : w.heap.size < w12.heap.size := blt cS012
 have lcA012 : w.heap.size + 1 < w12.heap.size := blt cA012
 have lcB012 : w.heap.size + 1 + 1 < w12.heap.size := blt cB012
 have lcW012 : gAW < w12.heap.size := blt cW012
 have lcWV012 : gBW < w12.heap.size := blt cWV012
 have lcxS012 : w10.heap.size < w12.heap.size := blt cxS012
 go_wp2_with fail
 refine name_call fun w13 hw13 => ?_
 have b13 : Below w.heap.size w w13 := by rw [hw13]; (repeat (with_reducible first | exact bR _ _ | assumption | refine bD ?_ | refine bN ?_ _ | refine bA ?_ _ | refine bS ?_ _))
 have z13 : w12.heap.size + 1 ≤ w13.heap.size := by rw [hw13]; simp
 have e13 : Below w12.heap.size w12 w13 := by rw [hw13]; (repeat (with_reducible first | exact bR _ _ | assumption | refine bD ?_ | refine bN ?_ _ | refine bA ?_ _ | refine bS ?_ _))
 have cS013 := ck e13 cS012
 have cS113 := ck e13 cS112
 have cS213 := ck e13 cS212
 have cS313 := ck e13 cS312
 have cA013 := ck e13 cA012
 have cB013 := ck e13 cB012
 have cW013 := ck e13 cW012
 have cW113 := ck e13 cW112
 have cW213 := ck e13 cW212
 have cW313 := ck e13 cW312
 have cWV013 := ck e13 cWV012
 have cxS013 := ck e13 cxS012
 have cxS113 := ck e13 cxS112
 have cxS213 := ck e13 cxS212
 have cxS313 := ck e13 cxS312
 have cxA013 : w13.cell? ⟨w12.heap.size, 0, none⟩ = some (.slice axA tsA.length kxA) := by rw [hw13]; first | (simp; done) | go_simp
 have tS13 := tS12.keep e13 (by omega)
 have tA13 := tA12.keep e13 (by omega)
 have tB13 := tB12.keep e13 (by omega)
 have tW13 := tW12.keep e13 (by omega)
 have tWV13 := tWV12.keep e13 (by omega)
 have txS13 := txS12.keep e13 (by omega)
 have txA13 := q12.keep e13 (by omega)
 clear hw13 lcS012 lcA012 lcB012 lcW012 lcWV012 lcxS012 cS012 cS112 cS212 cS312 cA012 cB012 cW012 cW112 cW212 cW312 cWV012 cxS012 cxS112 cxS212 cxS312 tS12 tA12 tB12 tW12 tWV12 txS12
 refine (toLin_any _ _ _ _ tsB _ tB13 (by omega) (by omega)).mono ?_; rintro e w14 ⟨uxB, rfl, f14, q14⟩
 have b14 := b13.trans (f14.mono (by omega))
 have z14 := f14.size
 have cS014 := ck f14 cS013
 have cS114 := ck f14 cS113
 have cS214 := ck f14 cS213
 have cS314 := ck f14 cS313
 have cA014 := ck f14 cA013
 have cB014 := ck f14 cB013
 have cW014 := ck f14 cW013
 have cW114 := ck f14 cW113
 have cW214 := ck f14 cW213
 have cW314 := ck f14 cW313
 have cWV014 := ck f14 cWV013
 have cxS014 := ck f14 cxS013
 have cxS114 := ck f14 cxS113
 have cxS214 := ck f14 cxS213
 have cxS314 := ck f14 cxS313
 have cxA014 := ck f14 cxA013
 have tS14 := tS13.keep f14 (by omega)
 have tA14 := tA13.keep f14 (by omega)
 have tB14 := tB13.keep f14 (by omega)
 have tW14 := tW13.keep f14 (by omega)
 have tWV14 := tWV13.keep f14 (by omega)
 have txS14 := txS13.keep f14 (by omega)
 have txA14 := txA13.keep f14 (by omega)
 clear cS013 cS113 cS213 cS313 cA013 cB013 cW013 cW113 cW213 cW313 cWV013 cxS013 cxS113 cxS213 cxS313 cxA013 tS13 tA13 tB13 tW13 tWV13 txS13 txA13
 obtain ⟨axB, kxB, rfl, laxB, baxB⟩ := id q14.shape
 have lcS014 : w.heap.size < w14.heap.size := blt cS014
 have lcA014 : w.heap.size + 1 < w14.heap.size := blt cA014
 have lcB014 : w.heap.size + 1 + 1 < w14.heap.size := blt cB014
 have lcW014 : gAW < w14.heap.size := blt cW014
 have lcWV014 : gBW < w14.heap.size := blt cWV014
 have lcxS014 : w10.heap.size < w14.heap.size := blt cxS014
 have lcxA014 : w12.heap.size < w14.heap.size := blt cxA014
 go_wp2_with fail
 refine name_call fun w15 hw15 => ?_
 have b15 : Below w.heap.size w w15 := by rw [hw15]; (repeat (with_reducible first | exact bR _ _ | assumption | refine bD ?_ | refine bN ?_ _ | refine bA ?_ _ | refine bS ?_ _))
 have z15 : w14.heap.size + 1 ≤ w15.heap.size := by rw [hw15]; simp
 have e15 : Below w14.heap.size w14 w15 := by rw [hw15]; (repeat (with_reducible first | exact bR _ _ | assumption | refine bD ?_ | refine bN ?_ _ | refine bA ?_ _ | refine bS ?_ _))
 have cS015 := ck e15 cS014
 have cS115 := ck e15 cS114
 have cS215 := ck e15 cS214
 have cS315 := ck e15 cS314
 have cA015 := ck e15 cA014
 have cB015 := ck e15 cB014
 have cW015 := ck e15 cW014
 have cW115 := ck e15 cW114
 have cW215 := ck e15 cW214
 have cW315 := ck e15 cW314
 have cWV015 := ck e15 cWV014
 have cxS015 := ck e15 cxS014
 have cxS115 := ck e15 cxS114
 have cxS215 := ck e15 cxS214
 have cxS315 := ck e15 cxS314
 have cxA015 := ck e15 cxA014
 have cxB015 : w15.cell? ⟨w14.heap.size, 0, none⟩ = some (.slice axB tsB.length kxB) := by rw [hw15]; first | (simp; done) | go_simp
 have tS15 := tS14.keep e15 (by omega)
 have tA15 := tA14.keep e15 (by omega)
 have tB15 := tB14.keep e15 (by omega)
 have tW15 := tW14.keep e15 (by omega)
 have tWV15 := tWV14.keep e15 (by omega)
 have txS15 := txS14.keep e15 (by omega)
 have txA15 := txA14.keep e15 (by omega)
 have txB15 := q14.keep e15 (by omega)
 clear hw15 lcS014 lcA014 lcB014 lcW014 lcWV014 lcxS014 lcxA014 cS014 cS114 cS214 cS314 cA014 cB014 cW014 cW114 cW214 cW314 cWV014 cxS014 cxS114 cxS214 cxS314 cxA014 tS14 tA14 tB14 tW14 tWV14 txS14 txA14
 refine (addLess_impl _ _ _ _ _ _ _ sS _ _ _ _ tsA _ _ _ _ tsB nN _ txS15 (by omega) sm txA15 (by omega) txB15 (by omega) (by omega) (by omega) n Hn.out m Hm.out ok r v Ho Hr Hv).mono ?_; intro e w16 hq
 obtain ⟨gi, go, gh, gc, gv, rfl, f16, tG16⟩ := AnsSL.of_ext hq
 clear hq
 have b16 := b15.trans (f16.mono (by omega))
 have z16 := f16.size
 have cS016 := ck f16 cS015
 have cS116 := ck f16 cS115
 have cS216 := ck f16 cS215
 have cS316 := ck f16 cS315
 have cA016 := ck f16 cA015
 have cB016 := ck f16 cB015
 have cW016 := ck f16 cW015
 have cW116 := ck f16 cW115
 have cW216 := ck f16 cW215
 have cW316 := ck f16 cW315
 have cWV016 := ck f16 cWV015
 have cxS016 := ck f16 cxS015
 have cxS116 := ck f16 cxS115
 have cxS216 := ck f16 cxS215
 have cxS316 := ck f16 cxS315
 have cxA016 := ck f16 cxA015
 have cxB016 := ck f16 cxB015
 have tS16 := tS15.keep f16 (by omega)
 have tA16 := tA15.keep f16 (by omega)
 have tB16 := tB15.keep f16 (by omega)
 have tW16 := tW15.keep f16 (by omega)
 have tWV16 := tWV15.keep f16 (by omega)
 have txS16 := txS15.keep f16 (by omega)
 have txA16 := txA15.keep f16 (by omega)
 have txB16 := txB15.keep f16 (by omega)
 clear cS015 cS115 cS215 cS315 cA015 cB015 cW015 cW115 cW215 cW315 cWV015 cxS015 cxS115 cxS215 cxS315 cxA015 cxB015 tS15 tA15 tB15 tW15 tWV15 txS15 txA15 txB15
 obtain ⟨aoG, koG, ahG, khG, acG, kcG, rfl, rfl, rfl, rfl, loG, boG, lhG, bhG, lcG, bcG, fiG⟩ := id tG16.sys.shape
 obtain ⟨aGV, kGV, rfl, laGV, baGV⟩ := id tG16.snd.shape
 have lcS016 : w.heap.size < w16.heap.size := blt cS016
 have lcA016 : w.heap.size + 1 < w16.heap.size := blt cA016
 have lcB016 : w.heap.size + 1 + 1 < w16.heap.size := blt cB016
 have lcW016 : gAW < w16.heap.size := blt cW016
 have lcWV016 : gBW < w16.heap.size := blt cWV016
 have lcxS016 : w10.heap.size < w16.heap.size := blt cxS016
 have lcxA016 : w12.heap.size < w16.heap.size := blt cxA016
 have lcxB016 : w14.heap.size < w16.heap.size := blt cxB016
 go_wp2_with fail
 refine name_call fun w17 hw17 => ?_
 have b17 : Below w.heap.size w w17 := by rw [hw17]; (repeat (with_reducible first | exact bR _ _ | assumption | refine bD ?_ | refine bN ?_ _ | refine bA ?_ _ | refine bS ?_ _))
 have z17 : w16.heap.size + 2 ≤ w17.heap.size := by rw [hw17]; simp
 have e17 : Below w16.heap.size w16 w17 := by rw [hw17]; (repeat (with_reducible first | exact bR _ _ | assumption | refine bD ?_ | refine bN ?_ _ | refine bA ?_ _ | refine bS ?_ _))
 have cS017 := ck e17 cS016
 have cS117 := ck e17 cS116
 have cS217 := ck e17 cS216
 have cS317 := ck e17 cS316
 have cA017 := ck e17 cA016
 have cB017 := ck e17 cB016
 have cW017 := ck e17 cW016
 have cW117 := ck e17 cW116
 have cW217 := ck e17 cW216
 have cW317 := ck e17 cW316
 have cWV017 := ck e17 cWV016
 have cxS017 := ck e17 cxS016
 have cxS117 := ck e17 cxS116
 have cxS217 := ck e17 cxS216
 have cxS317 := ck e17 cxS316
 have cxA017 := ck e17 cxA016
 have cxB017 := ck e17 cxB016
 have cG017 : w17.cell? ⟨w16.heap.size, 0, none⟩ = some (.int .i64 r.ins) := by rw [hw17]; first | (simp; done) | go_simp
 have cG117 : w17.cell? ⟨w16.heap.size, 1, none⟩ = some (.slice aoG r.outs.length koG) := by rw [hw17]; first | (simp; done) | go_simp
 have cG217 : w17.cell? ⟨w16.heap.size, 2, none⟩ = some (.slice ahG r.hints.length khG) := by rw [hw17]; first | (simp; done) | go_simp
 have cG317 : w17.cell? ⟨w16.heap.size, 3, none⟩ = some (.slice acG r.cons.length kcG) := by rw [hw17]; first | (simp; done) | go_simp
 have cGV017 : w17.cell? ⟨w16.heap.size + 1, 0, none⟩ = some (.slice aGV v.length kGV) := by rw [hw17]; first | (simp; done) | go_simp
 have tS17 := tS16.keep e17 (by omega)
 have tA17 := tA16.keep e17 (by omega)
 have tB17 := tB16.keep e17 (by omega)
 have tW17 := tW16.keep e17 (by omega)
 have tWV17 := tWV16.keep e17 (by omega)
 have txS17 := txS16.keep e17 (by omega)
 have txA17 := txA16.keep e17 (by omega)
 have txB17 := txB16.keep e17 (by omega)
 have tG17 := tG16.keep e17 (by omega)
 clear hw17 lcS016 lcA016 lcB016 lcW016 lcWV016 lcxS016 lcxA016 lcxB016 cS016 cS116 cS216 cS316 cA016 cB016 cW016 cW116 cW216 cW316 cWV016 cxS016 cxS116 cxS216 cxS316 cxA016 cxB016 tS16 tA16 tB16 tW16 tWV16 txS16 txA16 txB16 tG16
 refine (eqSys_same _ _ _ _ _ _ _ _ _ _ _ _ _ _ r _ (tG17.sys) (tW17) (by omega) (by omega)).mono ?_; rintro e w18 ⟨rfl, f18⟩
 have b18 := b17.trans (f18.mono (by omega))
 have z18 := f18.size
 have cS018 := ck f18 cS017
 have cS118 := ck f18 cS117
 have cS218 := ck f18 cS217
 have cS318 := ck f18 cS317
 have cA018 := ck f18 cA017
 have cB018 := ck f18 cB017
 have cW018 := ck f18 cW017
 have cW118 := ck f18 cW117
 have cW218 := ck f18 cW217
 have cW318 := ck f18 cW317
 have cWV018 := ck f18 cWV017
 have cxS018 := ck f18 cxS017
 have cxS118 := ck f18 cxS117
 have cxS218 := ck f18 cxS217
 have cxS318 := ck f18 cxS317
 have cxA018 := ck f18 cxA017
 have cxB018 := ck f18 cxB017
 have cG018 := ck f18 cG017
 have cG118 := ck f18 cG117
 have cG218 := ck f18 cG217
 have cG318 := ck f18 cG317
 have cGV018 := ck f18 cGV017
 have tS18 := tS17.keep f18 (by omega)
 have tA18 := tA17.keep f18 (by omega)
 have tB18 := tB17.keep f18 (by omega)
 have tW18 := tW17.keep f18 (by omega)
 have tWV18 := tWV17.keep f18 (by omega)
 have txS18 := txS17.keep f18 (by omega)
 have txA18 := txA17.keep f18 (by omega)
 have txB18 := txB17.keep f18 (by omega)
 have tG18 := tG17.keep f18 (by omega)
 clear cS017 cS117 cS217 cS317 cA017 cB017 cW017 cW117 cW217 cW317 cWV017 cxS017 cxS117 cxS217 cxS317 cxA017 cxB017 cG017 cG117 cG217 cG317 cGV017 tS17 tA17 tB17 tW17 tWV17 txS17 txA17 txB17 tG17
 have lcS018 : w.heap.size < w18.heap.size := blt cS018
 have lcA018 : w.heap.size + 1 < w18.heap.size := blt cA018
 have lcB018 : w.heap.size + 1 + 1 < w18.heap.size := blt cB018
 have lcW018 : gAW < w18.heap.size := blt cW018
 have lcWV018 : gBW < w18.heap.size := blt cWV018
 have lcxS018 : w10.heap.size < w18.heap.size := blt cxS018
 have lcxA018 : w12.heap.size < w18.heap.size := blt cxA018
 have lcxB018 : w14.heap.size < w18.heap.size := blt cxB018
 have lcG018 : w16.heap.size < w18.heap.size := blt cG018
 have lcGV018 : w16.heap.size + 1 < w18.heap.size := blt cGV018
 go_wp2_with fail
 refine name_call fun w19 hw19 => ?_
 have b19 : Below w.heap.size w w19 := by rw [hw19]; (repeat (with_reducible first | exact bR _ _ | assumption | refine bD ?_ | refine bN ?_ _ | refine bA ?_ _ | refine bS ?_ _))
 have z19 : w18.heap.size + 0 ≤ w19.heap.size := by rw [hw19]; simp
 have e19 : Below w18.heap.size w18 w19 := by rw [hw19]; (repeat (with_reducible first | exact bR _ _ | assumption | refine bD ?_ | refine bN ?_ _ | refine bA ?_ _ | refine bS ?_ _))
 have cS019 := ck e19 cS018
 have cS119 := ck e19 cS118
 have cS219 := ck e19 cS218
 have cS319 := ck e19 cS318
 have cA019 := ck e19 cA018
 have cB019 := ck e19 cB018
 have cW019 := ck e19 cW018
 have cW119 := ck e19 cW118
 have cW219 := ck e19 cW218
 have cW319 := ck e19 cW318
 have cWV019 := ck e19 cWV018
 have cxS019 := ck e19 cxS018
 have cxS119 := ck e19 cxS118
 have cxS219 := ck e19 cxS218
 have cxS319 := ck e19 cxS318
 have cxA019 := ck e19 cxA018
 have cxB019 := ck e19 cxB018
 have cG019 := ck e19 cG018
 have cG119 := ck e19 cG118
 have cG219 := ck e19 cG218
 have cG319 := ck e19 cG318
 have cGV019 := ck e19 cGV018
 have tS19 := tS18.keep e19 (by omega)
 have tA19 := tA18.keep e19 (by omega)
 have tB19 := tB18.keep e19 (by omega)
 have tW19 := tW18.keep e19 (by omega)
 have tWV19 := tWV18.keep e19 (by omega)
 have txS19 := txS18.keep e19 (by omega)
 have txA19 := txA18.keep e19 (by omega)
 have txB19 := txB18.keep e19 (by omega)
 have tG19 := tG18.keep e19 (by omega)
 clear hw19 lcS018 lcA018 lcB018 lcW018 lcWV018 lcxS018 lcxA018 lcxB018 lcG018 lcGV018 cS018 cS118 cS218 cS318 cA018 cB018 cW018 cW118 cW218 cW318 cWV018 cxS018 cxS118 cxS218 cxS318 cxA018 cxB018 cG018 cG118 cG218 cG318 cGV018 tS18 tA18 tB18 tW18 tWV18 txS18 txA18 txB18 tG18
 refine (eqLin_same _ _ _ _ _ _ _ _ v _ (tG19.snd) (tWV19) (by omega) (by omega)).mono ?_; rintro e w20 ⟨rfl, f20⟩
 have b20 := b19.trans (f20.mono (by omega))
 have z20 := f20.size
 have cS020 := ck f20 cS019
 have cS120 := ck f20 cS119
 have cS220 := ck f20 cS219
 have cS320 := ck f20 cS319
 have cA020 := ck f20 cA019
 have cB020 := ck f20 cB019
 have cW020 := ck f20 cW019
 have cW120 := ck f20 cW119
 have cW220 := ck f20 cW219
 have cW320 := ck f20 cW319
 have cWV020 := ck f20 cWV019
 have cxS020 := ck f20 cxS019
 have cxS120 := ck f20 cxS119
 have cxS220 := ck f20 cxS219
 have cxS320 := ck f20 cxS319
 have cxA020 := ck f20 cxA019
 have cxB020 := ck f20 cxB019
 have cG020 := ck f20 cG019
 have cG120 := ck f20 cG119
 have cG220 := ck f20 cG219
 have cG320 := ck f20 cG319
 have cGV020 := ck f20 cGV019
 have tS20 := tS19.keep f20 (by omega)
 have tA20 := tA19.keep f20 (by omega)
 have tB20 := tB19.keep f20 (by omega)
 have tW20 := tW19.keep f20 (by omega)
 have tWV20 := tWV19.keep f20 (by omega)
 have txS20 := txS19.keep f20 (by omega)
 have txA20 := txA19.keep f20 (by omega)
 have txB20 := txB19.keep f20 (by omega)
 have tG20 := tG19.keep f20 (by omega)
 clear cS019 cS119 cS219 cS319 cA019 cB019 cW019 cW119 cW219 cW319 cWV019 cxS019 cxS119 cxS219 cxS319 cxA019 cxB019 cG019 cG119 cG219 cG319 cGV019 tS19 tA19 tB19 tW19 tWV19 txS19 txA19 txB19 tG19
 have lcS020 : w.heap.size < w20.heap.size := blt cS020
 have lcA020 : w.heap.size + 1 < w20.heap.size := blt cA020
 have lcB020 : w.heap.size + 1 + 1 < w20.heap.size := blt cB020
 have lcW020 : gAW < w20.heap.size := blt cW020
 have lcWV020 : gBW < w20.heap.size := blt cWV020
 have lcxS020 : w10.heap.size < w20.heap.size := blt cxS020
 have lcxA020 : w12.heap.size < w20.heap.size := blt cxA020
 have lcxB020 : w14.heap.size < w20.heap.size := blt cxB020
 have lcG020 : w16.heap.size < w20.heap.size := blt cG020
 have lcGV020 : w16.heap.size + 1 < w20.heap.size := blt cGV020
 go_wp2_with fail
 refine name_wp fun w21 hw21 => ?_
 have b21 : Below w.heap.size w w21 := by rw [hw21]; (repeat (with_reducible first | exact bR _ _ | assumption | refine bD ?_ | refine bN ?_ _ | refine bA ?_ _ | refine bS ?_ _))
 have z21 : w20.heap.size + 0 ≤ w21.heap.size := by rw [hw21]; simp
 have e21 : Below w20.heap.size w20 w21 := by rw [hw21]; (repeat (with_reducible first | exact bR _ _ | assumption | refine bD ?_ | refine bN ?_ _ | refine bA ?_ _ | refine bS ?_ _))
 have cS021 := ck e21 cS020
 have cS121 := ck e21 cS120
 have cS221 := ck e21 cS220
 have cS321 := ck e21 cS320
 have cA021 := ck e21 cA020
 have cB021 := ck e21 cB020
 have cW021 := ck e21 cW020
 have cW121 := ck e21 cW120
 have cW221 := ck e21 cW220
 have cW321 := ck e21 cW320
 have cWV021 := ck e21 cWV020
 have cxS021 := ck e21 cxS020
 have cxS121 := ck e21 cxS120
 have cxS221 := ck e21 cxS220
 have cxS321 := ck e21 cxS320
 have cxA021 := ck e21 cxA020
 have cxB021 := ck e21 cxB020
 have cG021 := ck e21 cG020
 have cG121 := ck e21 cG120
 have cG221 := ck e21 cG220
 have cG321 := ck e21 cG320
 have cGV021 := ck e21 cGV020
 have tS21 := tS20.keep e21 (by omega)
 have tA21 := tA20.keep e21 (by omega)
 have tB21 := tB20.keep e21 (by omega)
 have tW21 := tW20.keep e21 (by omega)
 have tWV21 := tWV20.keep e21 (by omega)
 have txS21 := txS20.keep e21 (by omega)
 have txA21 := txA20.keep e21 (by omega)
 have txB21 := txB20.keep e21 (by omega)
 have tG21 := tG20.keep e21 (by omega)
 clear hw21 lcS020 lcA020 lcB020 lcW020 lcWV020 lcxS020 lcxA020 lcxB020 lcG020 lcGV020 cS020 cS120 cS220 cS320 cA020 cB020 cW020 cW120 cW220 cW320 cWV020 cxS020 cxS120 cxS220 cxS320 cxA020 cxB020 cG020 cG120 cG220 cG320 cGV020 tS20 tA20 tB20 tW20 tWV20 txS20 txA20 txB20 tG20
 have d21 : Below w21.heap.size w21 w21.drew := (Below.refl _ _).drew
 have zd21 : w21.heap.size ≤ w21.drew.heap.size := Nat.le_refl _
 have ze21 : w21.drew.heap.size ≤ w21.heap.size := Nat.le_refl _
 have GxS0 : w21.drew.cell? ⟨w10.heap.size, 0, none⟩ = some (.int .i64 sS.ins) := cell_keep d21 cxS021
 have GxS1 : w21.drew.cell? ⟨w10.heap.size, 1, none⟩ = some (.slice aoxS sS.outs.length koxS) := cell_keep d21 cxS121
 have GxS2 : w21.drew.cell? ⟨w10.heap.size, 2, none⟩ = some (.slice ahxS sS.hints.length khxS) := cell_keep d21 cxS221
 have GxS3 : w21.drew.cell? ⟨w10.heap.size, 3, none⟩ = some (.slice acxS sS.cons.length kcxS) := cell_keep d21 cxS321
 have GS0 : w21.drew.cell? ⟨w.heap.size, 0, none⟩ = some (.int .i64 sS.ins) := cell_keep d21 cS021
 have GS1 : w21.drew.cell? ⟨w.heap.size, 1, none⟩ = some (.slice aoS sS.outs.length koS) := cell_keep d21 cS121
 have GS2 : w21.drew.cell? ⟨w.heap.size, 2, none⟩ = some (.slice ahS sS.hints.length khS) := cell_keep d21 cS221
 have GS3 : w21.drew.cell? ⟨w.heap.size, 3, none⟩ = some (.slice acS sS.cons.length kcS) := cell_keep d21 cS321
 have US := tS21.keep d21 (by omega)
 have UxS := txS21.keep d21 (by omega)
 go_region_held3 (fun w' => w'.cell? ⟨w10.heap.size, 0, none⟩ = some (.int .i64 sS.ins) ∧ w'.cell? ⟨w10.heap.size, 1, none⟩ = some (.slice aoxS sS.outs.length koxS) ∧ w'.cell? ⟨w10.heap.size, 2, none⟩ = some (.slice ahxS sS.hints.length khxS) ∧ w'.cell? ⟨w10.heap.size, 3, none⟩ = some (.slice acxS sS.cons.length kcxS) ∧ w'.cell? ⟨w.heap.size, 0, none⟩ = some (.int .i64 sS.ins) ∧ w'.cell? ⟨w.heap.size, 1, none⟩ = some (.slice aoS sS.outs.length koS) ∧ w'.cell? ⟨w.heap.size, 2, none⟩ = some (.slice ahS sS.hints.length khS) ∧ w'.cell? ⟨w.heap.size, 3, none⟩ = some (.slice acS sS.cons.length kcS)) (first | exact ⟨GxS0, GxS1, GxS2, GxS3, GS0, GS1, GS2, GS3⟩ | exact ⟨cell_keep j1 GxS0, cell_keep j1 GxS1, cell_keep j1 GxS2, cell_keep j1 GxS3, cell_keep j1 GS0, cell_keep j1 GS1, cell_keep j1 GS2, cell_keep j1 GS3⟩ | exact ⟨cell_keep j2 (cell_keep j1 GxS0), cell_keep j2 (cell_keep j1 GxS1), cell_keep j2 (cell_keep j1 GxS2), cell_keep j2 (cell_keep j1 GxS3), cell_keep j2 (cell_keep j1 GS0), cell_keep j2 (cell_keep j1 GS1), cell_keep j2 (cell_keep j1 GS2), cell_keep j2 (cell_keep j1 GS3)⟩)
  (first
   | (go_at_call 7; refine (toSys_any false 0 w.heap.size _ _ _ _ sS w21.drew US (by omega) (by omega)).mono ?_; rintro e v1 ⟨uo1, uh1, uc1, rfl, j1, q1⟩; obtain ⟨ao1, ko1, ah1, kh1, ac1, kc1, -, rfl, rfl, rfl, lo1, bo1, lh1, bh1, lc1, bc1, -⟩ := id q1.shape; have s1 := j1.size)
   | (go_at_call 10; refine (eqSys_same _ _ _ _ _ _ _ _ _ _ _ _ _ _ sS v1 (UxS.keep j1 (by omega)) q1 (by omega) (Nat.le_refl _)).mono ?_; rintro e v2 ⟨rfl, j2⟩))
 have s2 := j2.size
 obtain ⟨w22, hw22⟩ : ∃ x, x = v2 := ⟨_, rfl⟩
 subst hw22
 have f22 : Below w21.heap.size w21 w22 := (d21.trans (j1.mono (by omega))).trans (j2.mono (by omega))
 have b22 := b21.trans (f22.mono (by omega))
 have z22 := f22.size
 have cS022 := ck f22 cS021
 have cS122 := ck f22 cS121
 have cS222 := ck f22 cS221
 have cS322 := ck f22 cS321
 have cA022 := ck f22 cA021
 have cB022 := ck f22 cB021
 have cW022 := ck f22 cW021
 have cW122 := ck f22 cW121
 have cW222 := ck f22 cW221
 have cW322 := ck f22 cW321
 have cWV022 := ck f22 cWV021
 have cxS022 := ck f22 cxS021
 have cxS122 := ck f22 cxS121
 have cxS222 := ck f22 cxS221
 have cxS322 := ck f22 cxS321
 have cxA022 := ck f22 cxA021
 have cxB022 := ck f22 cxB021
 have cG022 := ck f22 cG021
 have cG122 := ck f22 cG121
 have cG222 := ck f22 cG221
 have cG322 := ck f22 cG321
 have cGV022 := ck f22 cGV021
 have tS22 := tS21.keep f22 (by omega)
 have tA22 := tA21.keep f22 (by omega)
 have tB22 := tB21.keep f22 (by omega)
 have tW22 := tW21.keep f22 (by omega)
 have tWV22 := tWV21.keep f22 (by omega)
 have txS22 := txS21.keep f22 (by omega)
 have txA22 := txA21.keep f22 (by omega)
 have txB22 := txB21.keep f22 (by omega)
 have tG22 := tG21.keep f22 (by omega)
 clear cS021 cS121 cS221 cS321 cA021 cB021 cW021 cW121 cW221 cW321 cWV021 cxS021 cxS121 cxS221 cxS321 cxA021 cxB021 cG021 cG121 cG221 cG321 cGV021 tS21 tA21 tB21 tW21 tWV21 txS21 txA21 txB21 tG21 GxS0 GxS1 GxS2 GxS3 GS0 GS1 GS2 GS3 US UxS
 have lcS022 : w.heap.size < w22.heap.size := blt cS022
 have lcA022 : w.heap.size + 1 < w22.heap.size := blt cA022
 have lcB022 : w.heap.size + 1 + 1 < w22.heap.size := blt cB022
 have lcW022 : gAW < w22.heap.size := blt cW022
 have lcWV022 : gBW < w22.heap.size := blt cWV022
 have lcxS022 : w10.heap.size < w22.heap.size := blt cxS022
 have lcxA022 : w12.heap.size < w22.heap.size := blt cxA022
 have lcxB022 : w14.heap.size < w22.heap.size := blt cxB022
 have lcG022 : w16.heap.size < w22.heap.size := blt cG022
 have lcGV022 : w16.heap.size + 1 < w22.heap.size := blt cGV022
 go_wp2_with fail
 refine name_wp fun w23 hw23 => ?_
 have b23 : Below w.heap.size w w23 := by rw [hw23]; (repeat (with_reducible first | exact bR _ _ | assumption | refine bD ?_ | refine bN ?_ _ | refine bA ?_ _ | refine bS ?_ _))
 have z23 : w22.heap.size + 0 ≤ w23.heap.size := by rw [hw23]; simp
 have e23 : Below w22.heap.size w22 w23 := by rw [hw23]; (repeat (with_reducible first | exact bR _ _ | assumption | refine bD ?_ | refine bN ?_ _ | refine bA ?_ _ | refine bS ?_ _))
 have cS023 := ck e23 cS022
 have cS123 := ck e23 cS122
 have cS223 := ck e23 cS222
 have cS323 := ck e23 cS322
 have cA023 := ck e23 cA022
 have cB023 := ck e23 cB022
 have cW023 := ck e23 cW022
 have cW123 := ck e23 cW122
 have cW223 := ck e23 cW222
 have cW323 := ck e23 cW322
 have cWV023 := ck e23 cWV022
 have cxS023 := ck e23 cxS022
 have cxS123 := ck e23 cxS122
 have cxS223 := ck e23 cxS222
 have cxS323 := ck e23 cxS322
 have cxA023 := ck e23 cxA022
 have cxB023 := ck e23 cxB022
 have cG023 := ck e23 cG022
 have cG123 := ck e23 cG122
 have cG223 := ck e23 cG222
 have cG323 := ck e23 cG322
 have cGV023 := ck e23 cGV022
 have tS23 := tS22.keep e23 (by omega)
 have tA23 := tA22.keep e23 (by omega)
 have tB23 := tB22.keep e23 (by omega)
 have tW23 := tW22.keep e23 (by omega)
 have tWV23 := tWV22.keep e23 (by omega)
 have txS23 := txS22.keep e23 (by omega)
 have txA23 := txA22.keep e23 (by omega)
 have txB23 := txB22.keep e23 (by omega)
 have tG23 := tG22.keep e23 (by omega)
 clear hw23 lcS022 lcA022 lcB022 lcW022 lcWV022 lcxS022 lcxA022 lcxB022 lcG022 lcGV022 cS022 cS122 cS222 cS322 cA022 cB022 cW022 cW122 cW222 cW322 cWV022 cxS022 cxS122 cxS222 cxS322 cxA022 cxB022 cG022 cG122 cG222 cG322 cGV022 tS22 tA22 tB22 tW22 tWV22 txS22 txA22 txB22 tG22
 have d23 : Below w23.heap.size w23 w23.drew := (Below.refl _ _).drew
 have zd23 : w23.heap.size ≤ w23.drew.heap.size := Nat.le_refl _
 have ze23 : w23.drew.heap.size ≤ w23.heap.size := Nat.le_refl _
 have GxA0 : w23.drew.cell? ⟨w12.heap.size, 0, none⟩ = some (.slice axA tsA.length kxA) := cell_keep d23 cxA023
 have GA0 : w23.drew.cell? ⟨w.heap.size + 1, 0, none⟩ = some (.slice aA tsA.length kA) := cell_keep d23 cA023
 have UA := tA23.keep d23 (by omega)
 have UxA := txA23.keep d23 (by omega)
 go_region_held3 (fun w' => w'.cell? ⟨w12.heap.size, 0, none⟩ = some (.slice axA tsA.length kxA) ∧ w'.cell? ⟨w.heap.size + 1, 0, none⟩ = some (.slice aA tsA.length kA)) (first | exact ⟨GxA0, GA0⟩ | exact ⟨cell_keep j1 GxA0, cell_keep j1 GA0⟩ | exact ⟨cell_keep j2 (cell_keep j1 GxA0), cell_keep j2 (cell_keep j1 GA0)⟩)
  (first
   | (go_at_call 8; refine (toLin_any false 0 w.heap.size _ tsA w23.drew UA (by omega) (by omega)).mono ?_; rintro e v1 ⟨uo1, rfl, j1, q1⟩; obtain ⟨a1, k1, rfl, la1, ba1⟩ := id q1.shape; have s1 := j1.size)
   | (go_at_call 11; refine (eqLin_same _ _ _ _ _ _ _ _ tsA v1 (UxA.keep j1 (by omega)) q1 (by omega) (Nat.le_refl _)).mono ?_; rintro e v2 ⟨rfl, j2⟩))
 have s2 := j2.size
 obtain ⟨w24, hw24⟩ : ∃ x, x = v2 := ⟨_, rfl⟩
 subst hw24
 have f24 : Below w23.heap.size w23 w24 := (d23.trans (j1.mono (by omega))).trans (j2.mono (by omega))
 have b24 := b23.trans (f24.mono (by omega))
 have z24 := f24.size
 have cS024 := ck f24 cS023
 have cS124 := ck f24 cS123
 have cS224 := ck f24 cS223
 have cS324 := ck f24 cS323
 have cA024 := ck f24 cA023
 have cB024 := ck f24 cB023
 have cW024 := ck f24 cW023
 have cW124 := ck f24 cW123
 have cW224 := ck f24 cW223
 have cW324 := ck f24 cW323
 have cWV024 := ck f24 cWV023
 have cxS024 := ck f24 cxS023
 have cxS124 := ck f24 cxS123
 have cxS224 := ck f24 cxS223
 have cxS324 := ck f24 cxS323
 have cxA024 := ck f24 cxA023
 have cxB024 := ck f24 cxB023
 have cG024 := ck f24 cG023
 have cG124 := ck f24 cG123
 have cG224 := ck f24 cG223
 have cG324 := ck f24 cG323
 have cGV024 := ck f24 cGV023
 have tS24 := tS23.keep f24 (by omega)
 have tA24 := tA23.keep f24 (by omega)
 have tB24 := tB23.keep f24 (by omega)
 have tW24 := tW23.keep f24 (by omega)
 have tWV24 := tWV23.keep f24 (by omega)
 have txS24 := txS23.keep f24 (by omega)
 have txA24 := txA23.keep f24 (by omega)
 have txB24 := txB23.keep f24 (by omega)
 have tG24 := tG23.keep f24 (by omega)
 clear cS023 cS123 cS223 cS323 cA023 cB023 cW023 cW123 cW223 cW323 cWV023 cxS023 cxS123 cxS223 cxS323 cxA023 cxB023 cG023 cG123 cG223 cG323 cGV023 tS23 tA23 tB23 tW23 tWV23 txS23 txA23 txB23 tG23 GxA0 GA0 UA UxA
 have lcS024 : w.heap.size < w24.heap.size := blt cS024
 have lcA024 : w.heap.size + 1 < w24.heap.size := blt cA024
 have lcB024 : w.heap.size + 1 + 1 < w24.heap.size := blt cB024
 have lcW024 : gAW < w24.heap.size := blt cW024
 have lcWV024 : gBW < w24.heap.size := blt cWV024
 have lcxS024 : w10.heap.size < w24.heap.size := blt cxS024
 have lcxA024 : w12.heap.size < w24.heap.size := blt cxA024
 have lcxB024 : w14.heap.size < w24.heap.size := blt cxB024
 have lcG024 : w16.heap.size < w24.heap.size := blt cG024
 have lcGV024 : w16.heap.size + 1 < w24.heap.size := blt cGV024
 go_wp2_with fail
 refine name_wp fun w25 hw25 => ?_
 have b25 : Below w.heap.size w w25 := by rw [hw25]; (repeat (with_reducible first | exact bR _ _ | assumption | refine bD ?_ | refine bN ?_ _ | refine bA ?_ _ | refine bS ?_ _))
 have z25 : w24.heap.size + 0 ≤ w25.heap.size := by rw [hw25]; simp
 have e25 : Below w24.heap.size w24 w25 := by rw [hw25]; (repeat (with_reducible first | exact bR _ _ | assumption | refine bD ?_ | refine bN ?_ _ | refine bA ?_ _ | refine bS ?_ _))
 have cS025 := ck e25 cS024
 have cS125 := ck e25 cS124
 have cS225 := ck e25 cS224
 have cS325 := ck e25 cS324
 have cA025 := ck e25 cA024
 have cB025 := ck e25 cB024
 have cW025 := ck e25 cW024
 have cW125 := ck e25 cW124
 have cW225 := ck e25 cW224
 have cW325 := ck e25 cW324
 have cWV025 := ck e25 cWV024
 have cxS025 := ck e25 cxS024
 have cxS125 := ck e25 cxS124
 have cxS225 := ck e25 cxS224
 have cxS325 := ck e25 cxS324
 have cxA025 := ck e25 cxA024
 have cxB025 := ck e25 cxB024
 have cG025 := ck e25 cG024
 have cG125 := ck e25 cG124
 have cG225 := ck e25 cG224
 have cG325 := ck e25 cG324
 have cGV025 := ck e25 cGV024
 have tS25 := tS24.keep e25 (by omega)
 have tA25 := tA24.keep e25 (by omega)
 have tB25 := tB24.keep e25 (by omega)
 have tW25 := tW24.keep e25 (by omega)
 have tWV25 := tWV24.keep e25 (by omega)
 have txS25 := txS24.keep e25 (by omega)
 have txA25 := txA24.keep e25 (by omega)
 have txB25 := txB24.keep e25 (by omega)
 have tG25 := tG24.keep e25 (by omega)
 clear hw25 lcS024 lcA024 lcB024 lcW024 lcWV024 lcxS024 lcxA024 lcxB024 lcG024 lcGV024 cS024 cS124 cS224 cS324 cA024 cB024 cW024 cW124 cW224 cW324 cWV024 cxS024 cxS124 cxS224 cxS324 cxA024 cxB024 cG024 cG124 cG224 cG324 cGV024 tS24 tA24 tB24 tW24 tWV24 txS24 txA24 txB24 tG24
 have d25 : Below w25.heap.size w25 w25.drew := (Below.refl _ _).drew
 have zd25 : w25.heap.size ≤ w25.drew.heap.size := Nat.le_refl _
 have ze25 : w25.drew.heap.size ≤ w25.heap.size := Nat.le_refl _
 have GxB0 : w25.drew.cell? ⟨w14.heap.size, 0, none⟩ = some (.slice axB tsB.length kxB) := cell_keep d25 cxB025
 have GB0 : w25.drew.cell? ⟨w.heap.size + 1 + 1, 0, none⟩ = some (.slice aB tsB.length kB) := cell_keep d25 cB025
 have UB := tB25.keep d25 (by omega)
 have UxB := txB25.keep d25 (by omega)
 go_region_held3 (fun w' => w'.cell? ⟨w14.heap.size, 0, none⟩ = some (.slice axB tsB.length kxB) ∧ w'.cell? ⟨w.heap.size + 1 + 1, 0, none⟩ = some (.slice aB tsB.length kB)) (first | exact ⟨GxB0, GB0⟩ | exact ⟨cell_keep j1 GxB0, cell_keep j1 GB0⟩ | exact ⟨cell_keep j2 (cell_keep j1 GxB0), cell_keep j2 (cell_keep j1 GB0)⟩)
  (first
   | (go_at_call 8; refine (toLin_any false 0 w.heap.size _ tsB w25.drew UB (by omega) (by omega)).mono ?_; rintro e v1 ⟨uo1, rfl, j1, q1⟩; obtain ⟨a1, k1, rfl, la1, ba1⟩ := id q1.shape; have s1 := j1.size)
   | (go_at_call 11; refine (eqLin_same _ _ _ _ _ _ _ _ tsB v1 (UxB.keep j1 (by omega)) q1 (by omega) (Nat.le_refl _)).mono ?_; rintro e v2 ⟨rfl, j2⟩))
 have s2 := j2.size
 obtain ⟨w26, hw26⟩ : ∃ x, x = v2 := ⟨_, rfl⟩
 subst hw26
 have f26 : Below w25.heap.size w25 w26 := (d25.trans (j1.mono (by omega))).trans (j2.mono (by omega))
 have b26 := b25.trans (f26.mono (by omega))
 have z26 := f26.size
 have cS026 := ck f26 cS025
 have cS126 := ck f26 cS125
 have cS226 := ck f26 cS225
 have cS326 := ck f26 cS325
 have cA026 := ck f26 cA025
 have cB026 := ck f26 cB025
 have cW026 := ck f26 cW025
 have cW126 := ck f26 cW125
 have cW226 := ck f26 cW225
 have cW326 := ck f26 cW325
 have cWV026 := ck f26 cWV025
 have cxS026 := ck f26 cxS025
 have cxS126 := ck f26 cxS125
 have cxS226 := ck f26 cxS225
 have cxS326 := ck f26 cxS325
 have cxA026 := ck f26 cxA025
 have cxB026 := ck f26 cxB025
 have cG026 := ck f26 cG025
 have cG126 := ck f26 cG125
 have cG226 := ck f26 cG225
 have cG326 := ck f26 cG325
 have cGV026 := ck f26 cGV025
 have tS26 := tS25.keep f26 (by omega)
 have tA26 := tA25.keep f26 (by omega)
 have tB26 := tB25.keep f26 (by omega)
 have tW26 := tW25.keep f26 (by omega)
 have tWV26 := tWV25.keep f26 (by omega)
 have txS26 := txS25.keep f26 (by omega)
 have txA26 := txA25.keep f26 (by omega)
 have txB26 := txB25.keep f26 (by omega)
 have tG26 := tG25.keep f26 (by omega)
 clear cS025 cS125 cS225 cS325 cA025 cB025 cW025 cW125 cW225 cW325 cWV025 cxS025 cxS125 cxS225 cxS325 cxA025 cxB025 cG025 cG125 cG225 cG325 cGV025 tS25 tA25 tB25 tW25 tWV25 txS25 txA25 txB25 tG25 GxB0 GB0 UB UxB
 have lcS026 : w.heap.size < w26.heap.size := blt cS026
 have lcA026 : w.heap.size + 1 < w26.heap.size := blt cA026
 have lcB026 : w.heap.size + 1 + 1 < w26.heap.size := blt cB026
 have lcW026 : gAW < w26.heap.size := blt cW026
 have lcWV026 : gBW < w26.heap.size := blt cWV026
 have lcxS026 : w10.heap.size < w26.heap.size := blt cxS026
 have lcxA026 : w12.heap.size < w26.heap.size := blt cxA026
 have lcxB026 : w14.heap.size < w26.heap.size := blt cxB026
 have lcG026 : w16.heap.size < w26.heap.size := blt cG026
 have lcGV026 : w16.heap.size + 1 < w26.heap.size := blt cGV026
 go_wp2_with fail
 refine name_call fun w27 hw27 => ?_
 have b27 : Below w.heap.size w w27 := by rw [hw27]; (repeat (with_reducible first | exact bR _ _ | assumption | refine bD ?_ | refine bN ?_ _ | refine bA ?_ _ | refine bS ?_ _))
 have z27 : w26.heap.size + 0 ≤ w27.heap.size := by rw [hw27]; simp
 have e27 : Below w26.heap.size w26 w27 := by rw [hw27]; (repeat (with_reducible first | exact bR _ _ | assumption | refine bD ?_ | refine bN ?_ _ | refine bA ?_ _ | refine bS ?_ _))
 have cS027 := ck e27 cS026
 have cS127 := ck e27 cS126
 have cS227 := ck e27 cS226
 have cS327 := ck e27 cS326
 have cA027 := ck e27 cA026
 have cB027 := ck e27 cB026
 have cW027 := ck e27 cW026
 have cW127 := ck e27 cW126
 have cW227 := ck e27 cW226
 have cW327 := ck e27 cW326
 have cWV027 := ck e27 cWV026
 have cxS027 := ck e27 cxS026
 have cxS127 := ck e27 cxS126
 have cxS227 := ck e27 cxS226
 have cxS327 := ck e27 cxS326
 have cxA027 := ck e27 cxA026
 have cxB027 := ck e27 cxB026
 have cG027 := ck e27 cG026
 have cG127 := ck e27 cG126
 have cG227 := ck e27 cG226
 have cG327 := ck e27 cG326
 have cGV027 := ck e27 cGV026
 have tS27 := tS26.keep e27 (by omega)
 have tA27 := tA26.keep e27 (by omega)
 have tB27 := tB26.keep e27 (by omega)
 have tW27 := tW26.keep e27 (by omega)
 have tWV27 := tWV26.keep e27 (by omega)
 have txS27 := txS26.keep e27 (by omega)
 have txA27 := txA26.keep e27 (by omega)
 have txB27 := txB26.keep e27 (by omega)
 have tG27 := tG26.keep e27 (by omega)
 clear hw27 lcS026 lcA026 lcB026 lcW026 lcWV026 lcxS026 lcxA026 lcxB026 lcG026 lcGV026 cS026 cS126 cS226 cS326 cA026 cB026 cW026 cW126 cW226 cW326 cWV026 cxS026 cxS126 cxS226 cxS326 cxA026 cxB026 cG026 cG126 cG226 cG326 cGV026 tS26 tA26 tB26 tW26 tWV26 txS26 txA26 txB26 tG26
 refine (markSys_any _ _ _ _ _ _ sS (1) _ txS27 (by omega) (by omega)).mono ?_; rintro e w28 ⟨rfl, f28, q28⟩
 have d28 : Below w.heap.size w27 w28 := f28.below (by omega) (by omega)
 have b28 := b27.trans d28
 have z28 := f28.size
 have cS028 := (f28.cell (b := w.heap.size) (by omega) (by omega) 0).trans cS027
 have cS128 := (f28.cell (b := w.heap.size) (by omega) (by omega) 1).trans cS127
 have cS228 := (f28.cell (b := w.heap.size) (by omega) (by omega) 2).trans cS227
 have cS328 := (f28.cell (b := w.heap.size) (by omega) (by omega) 3).trans cS327
 have cA028 := (f28.cell (b := w.heap.size + 1) (by omega) (by omega) 0).trans cA027
 have cB028 := (f28.cell (b := w.heap.size + 1 + 1) (by omega) (by omega) 0).trans cB027
 have cW028 := (f28.cell (b := gAW) (by omega) (by omega) 0).trans cW027
 have cW128 := (f28.cell (b := gAW) (by omega) (by omega) 1).trans cW127
 have cW228 := (f28.cell (b := gAW) (by omega) (by omega) 2).trans cW227
 have cW328 := (f28.cell (b := gAW) (by omega) (by omega) 3).trans cW327
 have cWV028 := (f28.cell (b := gBW) (by omega) (by omega) 0).trans cWV027
 have cxS028 := (f28.cell (b := w10.heap.size) (by omega) (by omega) 0).trans cxS027
 have cxS128 := (f28.cell (b := w10.heap.size) (by omega) (by omega) 1).trans cxS127
 have cxS228 := (f28.cell (b := w10.heap.size) (by omega) (by omega) 2).trans cxS227
 have cxS328 := (f28.cell (b := w10.heap.size) (by omega) (by omega) 3).trans cxS327
 have cxA028 := (f28.cell (b := w12.heap.size) (by omega) (by omega) 0).trans cxA027
 have cxB028 := (f28.cell (b := w14.heap.size) (by omega) (by omega) 0).trans cxB027
 have cG028 := (f28.cell (b := w16.heap.size) (by omega) (by omega) 0).trans cG027
 have cG128 := (f28.cell (b := w16.heap.size) (by omega) (by omega) 1).trans cG127
 have cG228 := (f28.cell (b := w16.heap.size) (by omega) (by omega) 2).trans cG227
 have cG328 := (f28.cell (b := w16.heap.size) (by omega) (by omega) 3).trans cG327
 have cGV028 := (f28.cell (b := w16.heap.size + 1) (by omega) (by omega) 0).trans cGV027
 have tS28 := tS27.keep d28 (Nat.le_refl _)
 have tA28 := tA27.keep d28 (Nat.le_refl _)
 have tB28 := tB27.keep d28 (Nat.le_refl _)
 have tW28 := tW27.only f28 (by omega) (by omega)
 have tWV28 := tWV27.only f28 (by omega) (by omega)
 have txA28 := txA27.only f28 (by omega) (by omega)
 have txB28 := txB27.only f28 (by omega) (by omega)
 have tG28 := tG27.only f28 (by omega) (by omega)
 clear cS027 cS127 cS227 cS327 cA027 cB027 cW027 cW127 cW227 cW327 cWV027 cxS027 cxS127 cxS227 cxS327 cxA027 cxB027 cG027 cG127 cG227 cG327 cGV027 tS27 tA27 tB27 tW27 tWV27 txS27 txA27 txB27 tG27
 have lcS028 : w.heap.size < w28.heap.size := blt cS028
 have lcA028 : w.heap.size + 1 < w28.heap.size := blt cA028
 have lcB028 : w.heap.size + 1 + 1 < w28.heap.size := blt cB028
 have lcW028 : gAW < w28.heap.size := blt cW028
 have lcWV028 : gBW < w28.heap.size := blt cWV028
 have lcxS028 : w10.heap.size < w28.heap.size := blt cxS028
 have lcxA028 : w12.heap.size < w28.heap.size := blt cxA028
 have lcxB028 : w14.heap.size < w28.heap.size := blt cxB028
 have lcG028 : w16.heap.size < w28.heap.size := blt cG028
 have lcGV028 : w16.heap.size + 1 < w28.heap.size := blt cGV028
 go_wp2_with fail
 refine name_call fun w29 hw29 => ?_
 have b29 : Below w.heap.size w w29 := by rw [hw29]; (repeat (with_reducible first | exact bR _ _ | assumption | refine bD ?_ | refine bN ?_ _ | refine bA ?_ _ | refine bS ?_ _))
 have z29 : w28.heap.size + 0 ≤ w29.heap.size := by rw [hw29]; simp
 have e29 : Below w28.heap.size w28 w29 := by rw [hw29]; (repeat (with_reducible first | exact bR _ _ | assumption | refine bD ?_ | refine bN ?_ _ | refine bA ?_ _ | refine bS ?_ _))
 have cS029 := ck e29 cS028
 have cS129 := ck e29 cS128
 have cS229 := ck e29 cS228
 have cS329 := ck e29 cS328
 have cA029 := ck e29 cA028
 have cB029 := ck e29 cB028
 have cW029 := ck e29 cW028
 have cW129 := ck e29 cW128
 have cW229 := ck e29 cW228
 have cW329 := ck e29 cW328
 have cWV029 := ck e29 cWV028
 have cxS029 := ck e29 cxS028
 have cxS129 := ck e29 cxS128
 have cxS229 := ck e29 cxS228
 have cxS329 := ck e29 cxS328
 have cxA029 := ck e29 cxA028
 have cxB029 := ck e29 cxB028
 have cG029 := ck e29 cG028
 have cG129 := ck e29 cG128
 have cG229 := ck e29 cG228
 have cG329 := ck e29 cG328
 have cGV029 := ck e29 cGV028
 have tS29 := tS28.keep e29 (by omega)
 have tA29 := tA28.keep e29 (by omega)
 have tB29 := tB28.keep e29 (by omega)
 have tW29 := tW28.keep e29 (by omega)
 have tWV29 := tWV28.keep e29 (by omega)
 have txS29 := q28.keep e29 (by omega)
 have txA29 := txA28.keep e29 (by omega)
 have txB29 := txB28.keep e29 (by omega)
 have tG29 := tG28.keep e29 (by omega)
 clear hw29 lcS028 lcA028 lcB028 lcW028 lcWV028 lcxS028 lcxA028 lcxB028 lcG028 lcGV028 cS028 cS128 cS228 cS328 cA028 cB028 cW028 cW128 cW228 cW328 cWV028 cxS028 cxS128 cxS228 cxS328 cxA028 cxB028 cG028 cG128 cG228 cG328 cGV028 tS28 tA28 tB28 tW28 tWV28 txA28 txB28 tG28
 refine (markLin_any _ _ _ tsA (1 + totS sS) _ txA29 (by omega) (by omega) (by omega)).mono ?_; rintro e w30 ⟨rfl, f30, q30⟩
 have d30 : Below w.heap.size w29 w30 := f30.below (by omega) (by omega)
 have b30 := b29.trans d30
 have z30 := f30.size
 have cS030 := (f30.cell (b := w.heap.size) (by omega) (by omega) 0).trans cS029
 have cS130 := (f30.cell (b := w.heap.size) (by omega) (by omega) 1).trans cS129
 have cS230 := (f30.cell (b := w.heap.size) (by omega) (by omega) 2).trans cS229
 have cS330 := (f30.cell (b := w.heap.size) (by omega) (by omega) 3).trans cS329
 have cA030 := (f30.cell (b := w.heap.size + 1) (by omega) (by omega) 0).trans cA029
 have cB030 := (f30.cell (b := w.heap.size + 1 + 1) (by omega) (by omega) 0).trans cB029
 have cW030 := (f30.cell (b := gAW) (by omega) (by omega) 0).trans cW029
 have cW130 := (f30.cell (b := gAW) (by omega) (by omega) 1).trans cW129
 have cW230 := (f30.cell (b := gAW) (by omega) (by omega) 2).trans cW229
 have cW330 := (f30.cell (b := gAW) (by omega) (by omega) 3).trans cW329
 have cWV030 := (f30.cell (b := gBW) (by omega) (by omega) 0).trans cWV029
 have cxS030 := (f30.cell (b := w10.heap.size) (by omega) (by omega) 0).trans cxS029
 have cxS130 := (f30.cell (b := w10.heap.size) (by omega) (by omega) 1).trans cxS129
 have cxS230 := (f30.cell (b := w10.heap.size) (by omega) (by omega) 2).trans cxS229
 have cxS330 := (f30.cell (b := w10.heap.size) (by omega) (by omega) 3).trans cxS329
 have cxA030 := (f30.cell (b := w12.heap.size) (by omega) (by omega) 0).trans cxA029
 have cxB030 := (f30.cell (b := w14.heap.size) (by omega) (by omega) 0).trans cxB029
 have cG030 := (f30.cell (b := w16.heap.size) (by omega) (by omega) 0).trans cG029
 have cG130 := (f30.cell (b := w16.heap.size) (by omega) (by omega) 1).trans cG129
 have cG230 := (f30.cell (b := w16.heap.size) (by omega) (by omega) 2).trans cG229
 have cG330 := (f30.cell (b := w16.heap.size) (by omega) (by omega) 3).trans cG329
 have cGV030 := (f30.cell (b := w16.heap.size + 1) (by omega) (by omega) 0).trans cGV029
 have tS30 := tS29.keep d30 (Nat.le_refl _)
 have tA30 := tA29.keep d30 (Nat.le_refl _)
 have tB30 := tB29.keep d30 (Nat.le_refl _)
 have tW30 := tW29.only f30 (by omega) (by omega)
 have tWV30 := tWV29.only f30 (by omega) (by omega)
 have txS30 := txS29.only f30 (by omega) (by omega)
 have txB30 := txB29.only f30 (by omega) (by omega)
 have tG30 := tG29.only f30 (by omega) (by omega)
 clear cS029 cS129 cS229 cS329 cA029 cB029 cW029 cW129 cW229 cW329 cWV029 cxS029 cxS129 cxS229 cxS329 cxA029 cxB029 cG029 cG129 cG229 cG329 cGV029 tS29 tA29 tB29 tW29 tWV29 txS29 txA29 txB29 tG29
 have lcS030 : w.heap.size < w30.heap.size := blt cS030
 have lcA030 : w.heap.size + 1 < w30.heap.size := blt cA030
 have lcB030 : w.heap.size + 1 + 1 < w30.heap.size := blt cB030
 have lcW030 : gAW < w30.heap.size := blt cW030
 have lcWV030 : gBW < w30.heap.size := blt cWV030
 have lcxS030 : w10.heap.size < w30.heap.size := blt cxS030
 have lcxA030 : w12.heap.size < w30.heap.size := blt cxA030
 have lcxB030 : w14.heap.size < w30.heap.size := blt cxB030
 have lcG030 : w16.heap.size < w30.heap.size := blt cG030
 have lcGV030 : w16.heap.size + 1 < w30.heap.size := blt cGV030
 go_wp2_with fail
 refine name_call fun w31 hw31 => ?_
 have b31 : Below w.heap.size w w31 := by rw [hw31]; (repeat (with_reducible first | exact bR _ _ | assumption | refine bD ?_ | refine bN ?_ _ | refine bA ?_ _ | refine bS ?_ _))
 have z31 : w30.heap.size + 0 ≤ w31.heap.size := by rw [hw31]; simp
 have e31 : Below w30.heap.size w30 w31 := by rw [hw31]; (repeat (with_reducible first | exact bR _ _ | assumption | refine bD ?_ | refine bN ?_ _ | refine bA ?_ _ | refine bS ?_ _))
 have cS031 := ck e31 cS030
 have cS131 := ck e31 cS130
 have cS231 := ck e31 cS230
 have cS331 := ck e31 cS330
 have cA031 := ck e31 cA030
 have cB031 := ck e31 cB030
 have cW031 := ck e31 cW030
 have cW131 := ck e31 cW130
 have cW231 := ck e31 cW230
 have cW331 := ck e31 cW330
 have cWV031 := ck e31 cWV030
 have cxS031 := ck e31 cxS030
 have cxS131 := ck e31 cxS130
 have cxS231 := ck e31 cxS230
 have cxS331 := ck e31 cxS330
 have cxA031 := ck e31 cxA030
 have cxB031 := ck e31 cxB030
 have cG031 := ck e31 cG030
 have cG131 := ck e31 cG130
 have cG231 := ck e31 cG230
 have cG331 := ck e31 cG330
 have cGV031 := ck e31 cGV030
 have tS31 := tS30.keep e31 (by omega)
 have tA31 := tA30.keep e31 (by omega)
 have tB31 := tB30.keep e31 (by omega)
 have tW31 := tW30.keep e31 (by omega)
 have tWV31 := tWV30.keep e31 (by omega)
 have txS31 := txS30.keep e31 (by omega)
 have txA31 := q30.keep e31 (by omega)
 have txB31 := txB30.keep e31 (by omega)
 have tG31 := tG30.keep e31 (by omega)
 clear hw31 lcS030 lcA030 lcB030 lcW030 lcWV030 lcxS030 lcxA030 lcxB030 lcG030 lcGV030 cS030 cS130 cS230 cS330 cA030 cB030 cW030 cW130 cW230 cW330 cWV030 cxS030 cxS130 cxS230 cxS330 cxA030 cxB030 cG030 cG130 cG230 cG330 cGV030 tS30 tA30 tB30 tW30 tWV30 txS30 txB30 tG30
 refine (markLin_any _ _ _ tsB (1 + totS sS + 2 * tsA.length) _ txB31 (by omega) (by omega) (by omega)).mono ?_; rintro e w32 ⟨rfl, f32, q32⟩
 have d32 : Below w.heap.size w31 w32 := f32.below (by omega) (by omega)
 have b32 := b31.trans d32
 have z32 := f32.size
 have cS032 := (f32.cell (b := w.heap.size) (by omega) (by omega) 0).trans cS031
 have cS132 := (f32.cell (b := w.heap.size) (by omega) (by omega) 1).trans cS131
 have cS232 := (f32.cell (b := w.heap.size) (by omega) (by omega) 2).trans cS231
 have cS332 := (f32.cell (b := w.heap.size) (by omega) (by omega) 3).trans cS331
 have cA032 := (f32.cell (b := w.heap.size + 1) (by omega) (by omega) 0).trans cA031
 have cB032 := (f32.cell (b := w.heap.size + 1 + 1) (by omega) (by omega) 0).trans cB031
 have cW032 := (f32.cell (b := gAW) (by omega) (by omega) 0).trans cW031
 have cW132 := (f32.cell (b := gAW) (by omega) (by omega) 1).trans cW131
 have cW232 := (f32.cell (b := gAW) (by omega) (by omega) 2).trans cW231
 have cW332 := (f32.cell (b := gAW) (by omega) (by omega) 3).trans cW331
 have cWV032 := (f32.cell (b := gBW) (by omega) (by omega) 0).trans cWV031
 have cxS032 := (f32.cell (b := w10.heap.size) (by omega) (by omega) 0).trans cxS031
 have cxS132 := (f32.cell (b := w10.heap.size) (by omega) (by omega) 1).trans cxS131
 have cxS232 := (f32.cell (b := w10.heap.size) (by omega) (by omega) 2).trans cxS231
 have cxS332 := (f32.cell (b := w10.heap.size) (by omega) (by omega) 3).trans cxS331
 have cxA032 := (f32.cell (b := w12.heap.size) (by omega) (by omega) 0).trans cxA031
 have cxB032 := (f32.cell (b := w14.heap.size) (by omega) (by omega) 0).trans cxB031
 have cG032 := (f32.cell (b := w16.heap.size) (by omega) (by omega) 0).trans cG031
 have cG132 := (f32.cell (b := w16.heap.size) (by omega) (by omega) 1).trans cG131
 have cG232 := (f32.cell (b := w16.heap.size) (by omega) (by omega) 2).trans cG231
 have cG332 := (f32.cell (b := w16.heap.size) (by omega) (by omega) 3).trans cG331
 have cGV032 := (f32.cell (b := w16.heap.size + 1) (by omega) (by omega) 0).trans cGV031
 have tS32 := tS31.keep d32 (Nat.le_refl _)
 have tA32 := tA31.keep d32 (Nat.le_refl _)
 have tB32 := tB31.keep d32 (Nat.le_refl _)
 have tW32 := tW31.only f32 (by omega) (by omega)
 have tWV32 := tWV31.only f32 (by omega) (by omega)
 have txS32 := txS31.only f32 (by omega) (by omega)
 have txA32 := txA31.only f32 (by omega) (by omega)
 have tG32 := tG31.only f32 (by omega) (by omega)
 clear cS031 cS131 cS231 cS331 cA031 cB031 cW031 cW131 cW231 cW331 cWV031 cxS031 cxS131 cxS231 cxS331 cxA031 cxB031 cG031 cG131 cG231 cG331 cGV031 tS31 tA31 tB31 tW31 tWV31 txS31 txA31 txB31 tG31
 have lcS032 : w.heap.size < w32.heap.size := blt cS032
 have lcA032 : w.heap.size + 1 < w32.heap.size := blt cA032
 have lcB032 : w.heap.size + 1 + 1 < w32.heap.size := blt cB032
 have lcW032 : gAW < w32.heap.size := blt cW032
 have lcWV032 : gBW < w32.heap.size := blt cWV032
 have lcxS032 : w10.heap.size < w32.heap.size := blt cxS032
 have lcxA032 : w12.heap.size < w32.heap.size := blt cxA032
 have lcxB032 : w14.heap.size < w32.heap.size := blt cxB032
 have lcG032 : w16.heap.size < w32.heap.size := blt cG032
 have lcGV032 : w16.heap.size + 1 < w32.heap.size := blt cGV032
 go_wp2_with fail
 refine name_call fun w33 hw33 => ?_
 have b33 : Below w.heap.size w w33 := by rw [hw33]; (repeat (with_reducible first | exact bR _ _ | assumption | refine bD ?_ | refine bN ?_ _ | refine bA ?_ _ | refine bS ?_ _))
 have z33 : w32.heap.size + 0 ≤ w33.heap.size := by rw [hw33]; simp
 have e33 : Below w32.heap.size w32 w33 := by rw [hw33]; (repeat (with_reducible first | exact bR _ _ | assumption | refine bD ?_ | refine bN ?_ _ | refine bA ?_ _ | refine bS ?_ _))
 have cS033 := ck e33 cS032
 have cS133 := ck e33 cS132
 have cS233 := ck e33 cS232
 have cS333 := ck e33 cS332
 have cA033 := ck e33 cA032
 have cB033 := ck e33 cB032
 have cW033 := ck e33 cW032
 have cW133 := ck e33 cW132
 have cW233 := ck e33 cW232
 have cW333 := ck e33 cW332
 have cWV033 := ck e33 cWV032
 have cxS033 := ck e33 cxS032
 have cxS133 := ck e33 cxS132
 have cxS233 := ck e33 cxS232
 have cxS333 := ck e33 cxS332
 have cxA033 := ck e33 cxA032
 have cxB033 := ck e33 cxB032
 have cG033 := ck e33 cG032
 have cG133 := ck e33 cG132
 have cG233 := ck e33 cG232
 have cG333 := ck e33 cG332
 have cGV033 := ck e33 cGV032
 have tS33 := tS32.keep e33 (by omega)
 have tA33 := tA32.keep e33 (by omega)
 have tB33 := tB32.keep e33 (by omega)
 have tW33 := tW32.keep e33 (by omega)
 have tWV33 := tWV32.keep e33 (by omega)
 have txS33 := txS32.keep e33 (by omega)
 have txA33 := txA32.keep e33 (by omega)
 have txB33 := q32.keep e33 (by omega)
 have tG33 := tG32.keep e33 (by omega)
 clear hw33 lcS032 lcA032 lcB032 lcW032 lcWV032 lcxS032 lcxA032 lcxB032 lcG032 lcGV032 cS032 cS132 cS232 cS332 cA032 cB032 cW032 cW132 cW232 cW332 cWV032 cxS032 cxS132 cxS232 cxS332 cxA032 cxB032 cG032 cG132 cG232 cG332 cGV032 tS32 tA32 tB32 tW32 tWV32 txS32 txA32 tG32
 refine (eqSys_same _ _ _ _ _ _ _ _ _ _ _ _ _ _ r _ (tG33.sys) (tW33) (by omega) (by omega)).mono ?_; rintro e w34 ⟨rfl, f34⟩
 have b34 := b33.trans (f34.mono (by omega))
 have z34 := f34.size
 have cS034 := ck f34 cS033
 have cS134 := ck f34 cS133
 have cS234 := ck f34 cS233
 have cS334 := ck f34 cS333
 have cA034 := ck f34 cA033
 have cB034 := ck f34 cB033
 have cW034 := ck f34 cW033
 have cW134 := ck f34 cW133
 have cW234 := ck f34 cW233
 have cW334 := ck f34 cW333
 have cWV034 := ck f34 cWV033
 have cxS034 := ck f34 cxS033
 have cxS134 := ck f34 cxS133
 have cxS234 := ck f34 cxS233
 have cxS334 := ck f34 cxS333
 have cxA034 := ck f34 cxA033
 have cxB034 := ck f34 cxB033
 have cG034 := ck f34 cG033
 have cG134 := ck f34 cG133
 have cG234 := ck f34 cG233
 have cG334 := ck f34 cG333
 have cGV034 := ck f34 cGV033
 have tS34 := tS33.keep f34 (by omega)
 have tA34 := tA33.keep f34 (by omega)
 have tB34 := tB33.keep f34 (by omega)
 have tW34 := tW33.keep f34 (by omega)
 have tWV34 := tWV33.keep f34 (by omega)
 have txS34 := txS33.keep f34 (by omega)
 have txA34 := txA33.keep f34 (by omega)
 have txB34 := txB33.keep f34 (by omega)
 have tG34 := tG33.keep f34 (by omega)
 clear cS033 cS133 cS233 cS333 cA033 cB033 cW033 cW133 cW233 cW333 cWV033 cxS033 cxS133 cxS233 cxS333 cxA033 cxB033 cG033 cG133 cG233 cG333 cGV033 tS33 tA33 tB33 tW33 tWV33 txS33 txA33 txB33 tG33
 have lcS034 : w.heap.size < w34.heap.size := blt cS034
 have lcA034 : w.heap.size + 1 < w34.heap.size := blt cA034
 have lcB034 : w.heap.size + 1 + 1 < w34.heap.size := blt cB034
 have lcW034 : gAW < w34.heap.size := blt cW034
 have lcWV034 : gBW < w34.heap.size := blt cWV034
 have lcxS034 : w10.heap.size < w34.heap.size := blt cxS034
 have lcxA034 : w12.heap.size < w34.heap.size := blt cxA034
 have lcxB034 : w14.heap.size < w34.heap.size := blt cxB034
 have lcG034 : w16.heap.size < w34.heap.size := blt cG034
 have lcGV034 : w16.heap.size + 1 < w34.heap.size := blt cGV034
 go_wp2_with fail
 refine name_call fun w35 hw35 => ?_
 have b35 : Below w.heap.size w w35 := by rw [hw35]; (repeat (with_reducible first | exact bR _ _ | assumption | refine bD ?_ | refine bN ?_ _ | refine bA ?_ _ | refine bS ?_ _))
 have z35 : w34.heap.size + 0 ≤ w35.heap.size := by rw [hw35]; simp
 have e35 : Below w34.heap.size w34 w35 := by rw [hw35]; (repeat (with_reducible first | exact bR _ _ | assumption | refine bD ?_ | refine bN ?_ _ | refine bA ?_ _ | refine bS ?_ _))
 have cS035 := ck e35 cS034
 have cS135 := ck e35 cS134
 have cS235 := ck e35 cS234
 have cS335 := ck e35 cS334
 have cA035 := ck e35 cA034
 have cB035 := ck e35 cB034
 have cW035 := ck e35 cW034
 have cW135 := ck e35 cW134
 have cW235 := ck e35 cW234
 have cW335 := ck e35 cW334
 have cWV035 := ck e35 cWV034
 have cxS035 := ck e35 cxS034
 have cxS135 := ck e35 cxS134
 have cxS235 := ck e35 cxS234
 have cxS335 := ck e35 cxS334
 have cxA035 := ck e35 cxA034
 have cxB035 := ck e35 cxB034
 have cG035 := ck e35 cG034
 have cG135 := ck e35 cG134
 have cG235 := ck e35 cG234
 have cG335 := ck e35 cG334
 have cGV035 := ck e35 cGV034
 have tS35 := tS34.keep e35 (by omega)
 have tA35 := tA34.keep e35 (by omega)
 have tB35 := tB34.keep e35 (by omega)
 have tW35 := tW34.keep e35 (by omega)
 have tWV35 := tWV34.keep e35 (by omega)
 have txS35 := txS34.keep e35 (by omega)
 have txA35 := txA34.keep e35 (by omega)
 have txB35 := txB34.keep e35 (by omega)
 have tG35 := tG34.keep e35 (by omega)
 clear hw35 lcS034 lcA034 lcB034 lcW034 lcWV034 lcxS034 lcxA034 lcxB034 lcG034 lcGV034 cS034 cS134 cS234 cS334 cA034 cB034 cW034 cW134 cW234 cW334 cWV034 cxS034 cxS134 cxS234 cxS334 cxA034 cxB034 cG034 cG134 cG234 cG334 cGV034 tS34 tA34 tB34 tW34 tWV34 txS34 txA34 txB34 tG34
 refine (eqLin_same _ _ _ _ _ _ _ _ v _ (tG35.snd) (tWV35) (by omega) (by omega)).mono ?_; rintro e w36 ⟨rfl, f36⟩
 have b36 := b35.trans (f36.mono (by omega))
 have z36 := f36.size
 have cS036 := ck f36 cS035
 have cS136 := ck f36 cS135
 have cS236 := ck f36 cS235
 have cS336 := ck f36 cS335
 have cA036 := ck f36 cA035
 have cB036 := ck f36 cB035
 have cW036 := ck f36 cW035
 have cW136 := ck f36 cW135
 have cW236 := ck f36 cW235
 have cW336 := ck f36 cW335
 have cWV036 := ck f36 cWV035
 have cxS036 := ck f36 cxS035
 have cxS136 := ck f36 cxS135
 have cxS236 := ck f36 cxS235
 have cxS336 := ck f36 cxS335
 have cxA036 := ck f36 cxA035
 have cxB036 := ck f36 cxB035
 have cG036 := ck f36 cG035
 have cG136 := ck f36 cG135
 have cG236 := ck f36 cG235
 have cG336 := ck f36 cG335
 have cGV036 := ck f36 cGV035
 have tS36 := tS35.keep f36 (by omega)
 have tA36 := tA35.keep f36 (by omega)
 have tB36 := tB35.keep f36 (by omega)
 have tW36 := tW35.keep f36 (by omega)
 have tWV36 := tWV35.keep f36 (by omega)
 have txS36 := txS35.keep f36 (by omega)
 have txA36 := txA35.keep f36 (by omega)
 have txB36 := txB35.keep f36 (by omega)
 have tG36 := tG35.keep f36 (by omega)
 clear cS035 cS135 cS235 cS335 cA035 cB035 cW035 cW135 cW235 cW335 cWV035 cxS035 cxS135 cxS235 cxS335 cxA035 cxB035 cG035 cG135 cG235 cG335 cGV035 tS35 tA35 tB35 tW35 tWV35 txS35 txA35 txB35 tG35
 clear txS36
 clear txA36
 clear txB36
 clear cxS036
 clear cxS136
 clear cxS236
 clear cxS336
 clear cxA036
 clear cxB036
 have lcS036 : w.heap.size < w36.heap.size := blt cS036
 have lcA036 : w.heap.size + 1 < w36.heap.size := blt cA036
 have lcB036 : w.heap.size + 1 + 1 < w36.heap.size := blt cB036
 have lcW036 : gAW < w36.heap.size := blt cW036
 have lcWV036 : gBW < w36.heap.size := blt cWV036
 have lcG036 : w16.heap.size < w36.heap.size := blt cG036
 have lcGV036 : w16.heap.size + 1 < w36.heap.size := blt cGV036
 go_wp2_with fail
 refine name_call fun w37 hw37 => ?_
 have b37 : Below w.heap.size w w37 := by rw [hw37]; (repeat (with_reducible first | exact bR _ _ | assumption | refine bD ?_ | refine bN ?_ _ | refine bA ?_ _ | refine bS ?_ _))
 have z37 : w36.heap.size + 0 ≤ w37.heap.size := by rw [hw37]; simp
 have e37 : Below w36.heap.size w36 w37 := by rw [hw37]; (repeat (with_reducible first | exact bR _ _ | assumption | refine bD ?_ | refine bN ?_ _ | refine bA ?_ _ | refine bS ?_ _))
 have cS037 := ck e37 cS036
 have cS137 := ck e37 cS136
 have cS237 := ck e37 cS236
 have cS337 := ck e37 cS336
 have cA037 := ck e37 cA036
 have cB037 := ck e37 cB036
 have cW037 := ck e37 cW036
 have cW137 := ck e37 cW136
 have cW237 := ck e37 cW236
 have cW337 := ck e37 cW336
 have cWV037 := ck e37 cWV036
 have cG037 := ck e37 cG036
 have cG137 := ck e37 cG136
 have cG237 := ck e37 cG236
 have cG337 := ck e37 cG336
 have cGV037 := ck e37 cGV036
 have tS37 := tS36.keep e37 (by omega)
 have tA37 := tA36.keep e37 (by omega)
 have tB37 := tB36.keep e37 (by omega)
 have tW37 := tW36.keep e37 (by omega)
 have tWV37 := tWV36.keep e37 (by omega)
 have tG37 := tG36.keep e37 (by omega)
 clear hw37 lcS036 lcA036 lcB036 lcW036 lcWV036 lcG036 lcGV036 cS036 cS136 cS236 cS336 cA036 cB036 cW036 cW136 cW236 cW336 cWV036 cG036 cG136 cG236 cG336 cGV036 tS36 tA36 tB36 tW36 tWV36 tG36
 refine (AnsSL.mark1 1 tG37 (by omega)).mono ?_; rintro e w38 ⟨rfl, f38, q38⟩
 have d38 : Below w.heap.size w37 w38 := f38.below (by omega) (by omega)
 have b38 := b37.trans d38
 have z38 := f38.size
 have cS038 := (f38.cell (b := w.heap.size) (by omega) (by omega) 0).trans cS037
 have cS138 := (f38.cell (b := w.heap.size) (by omega) (by omega) 1).trans cS137
 have cS238 := (f38.cell (b := w.heap.size) (by omega) (by omega) 2).trans cS237
 have cS338 := (f38.cell (b := w.heap.size) (by omega) (by omega) 3).trans cS337
 have cA038 := (f38.cell (b := w.heap.size + 1) (by omega) (by omega) 0).trans cA037
 have cB038 := (f38.cell (b := w.heap.size + 1 + 1) (by omega) (by omega) 0).trans cB037
 have cW038 := (f38.cell (b := gAW) (by omega) (by omega) 0).trans cW037
 have cW138 := (f38.cell (b := gAW) (by omega) (by omega) 1).trans cW137
 have cW238 := (f38.cell (b := gAW) (by omega) (by omega) 2).trans cW237
 have cW338 := (f38.cell (b := gAW) (by omega) (by omega) 3).trans cW337
 have cWV038 := (f38.cell (b := gBW) (by omega) (by omega) 0).trans cWV037
 have cG038 := (f38.cell (b := w16.heap.size) (by omega) (by omega) 0).trans cG037
 have cG138 := (f38.cell (b := w16.heap.size) (by omega) (by omega) 1).trans cG137
 have cG238 := (f38.cell (b := w16.heap.size) (by omega) (by omega) 2).trans cG237
 have cG338 := (f38.cell (b := w16.heap.size) (by omega) (by omega) 3).trans cG337
 have cGV038 := (f38.cell (b := w16.heap.size + 1) (by omega) (by omega) 0).trans cGV037
 have tS38 := tS37.keep d38 (Nat.le_refl _)
 have tA38 := tA37.keep d38 (Nat.le_refl _)
 have tB38 := tB37.keep d38 (Nat.le_refl _)
 have tW38 := tW37.only f38 (by omega) (by omega)
 have tWV38 := tWV37.only f38 (by omega) (by omega)
 clear cS037 cS137 cS237 cS337 cA037 cB037 cW037 cW137 cW237 cW337 cWV037 cG037 cG137 cG237 cG337 cGV037 tS37 tA37 tB37 tW37 tWV37 tG37
 have lcS038 : w.heap.size < w38.heap.size := blt cS038
 have lcA038 : w.heap.size + 1 < w38.heap.size := blt cA038
 have lcB038 : w.heap.size + 1 + 1 < w38.heap.size := blt cB038
 have lcW038 : gAW < w38.heap.size := blt cW038
 have lcWV038 : gBW < w38.heap.size := blt cWV038
 have lcG038 : w16.heap.size < w38.heap.size := blt cG038
 have lcGV038 : w16.heap.size + 1 < w38.heap.size := blt cGV038
 go_wp2_with fail
 refine name_call fun w39 hw39 => ?_
 have b39 : Below w.heap.size w w39 := by rw [hw39]; (repeat (with_reducible first | exact bR _ _ | assumption | refine bD ?_ | refine bN ?_ _ | refine bA ?_ _ | refine bS ?_ _))
 have z39 : w38.heap.size + 0 ≤ w39.heap.size := by rw [hw39]; simp
 have e39 : Below w38.heap.size w38 w39 := by rw [hw39]; (repeat (with_reducible first | exact bR _ _ | assumption | refine bD ?_ | refine bN ?_ _ | refine bA ?_ _ | refine bS ?_ _))
 have cS039 := ck e39 cS038
 have cS139 := ck e39 cS138
 have cS239 := ck e39 cS238
 have cS339 := ck e39 cS338
 have cA039 := ck e39 cA038
 have cB039 := ck e39 cB038
 have cW039 := ck e39 cW038
 have cW139 := ck e39 cW138
 have cW239 := ck e39 cW238
 have cW339 := ck e39 cW338
 have cWV039 := ck e39 cWV038
 have cG039 := ck e39 cG038
 have cG139 := ck e39 cG138
 have cG239 := ck e39 cG238
 have cG339 := ck e39 cG338
 have cGV039 := ck e39 cGV038
 have tS39 := tS38.keep e39 (by omega)
 have tA39 := tA38.keep e39 (by omega)
 have tB39 := tB38.keep e39 (by omega)
 have tW39 := tW38.keep e39 (by omega)
 have tWV39 := tWV38.keep e39 (by omega)
 have tG39 := q38.keep e39 (by omega)
 clear hw39 lcS038 lcA038 lcB038 lcW038 lcWV038 lcG038 lcGV038 cS038 cS138 cS238 cS338 cA038 cB038 cW038 cW138 cW238 cW338 cWV038 cG038 cG138 cG238 cG338 cGV038 tS38 tA38 tB38 tW38 tWV38
 refine (AnsSL.mark2 (1 + totS r) tG39 (by omega) (by omega)).mono ?_; rintro e w40 ⟨rfl, f40, q40⟩
 have d40 : Below w.heap.size w39 w40 := f40.below (by omega) (by omega)
 have b40 := b39.trans d40
 have z40 := f40.size
 have cS040 := (f40.cell (b := w.heap.size) (by omega) (by omega) 0).trans cS039
 have cS140 := (f40.cell (b := w.heap.size) (by omega) (by omega) 1).trans cS139
 have cS240 := (f40.cell (b := w.heap.size) (by omega) (by omega) 2).trans cS239
 have cS340 := (f40.cell (b := w.heap.size) (by omega) (by omega) 3).trans cS339
 have cA040 := (f40.cell (b := w.heap.size + 1) (by omega) (by omega) 0).trans cA039
 have cB040 := (f40.cell (b := w.heap.size + 1 + 1) (by omega) (by omega) 0).trans cB039
 have cW040 := (f40.cell (b := gAW) (by omega) (by omega) 0).trans cW039
 have cW140 := (f40.cell (b := gAW) (by omega) (by omega) 1).trans cW139
 have cW240 := (f40.cell (b := gAW) (by omega) (by omega) 2).trans cW239
 have cW340 := (f40.cell (b := gAW) (by omega) (by omega) 3).trans cW339
 have cWV040 := (f40.cell (b := gBW) (by omega) (by omega) 0).trans cWV039
 have cG040 := (f40.cell (b := w16.heap.size) (by omega) (by omega) 0).trans cG039
 have cG140 := (f40.cell (b := w16.heap.size) (by omega) (by omega) 1).trans cG139
 have cG240 := (f40.cell (b := w16.heap.size) (by omega) (by omega) 2).trans cG239
 have cG340 := (f40.cell (b := w16.heap.size) (by omega) (by omega) 3).trans cG339
 have cGV040 := (f40.cell (b := w16.heap.size + 1) (by omega) (by omega) 0).trans cGV039
 have tS40 := tS39.keep d40 (Nat.le_refl _)
 have tA40 := tA39.keep d40 (Nat.le_refl _)
 have tB40 := tB39.keep d40 (Nat.le_refl _)
 have tW40 := tW39.only f40 (by omega) (by omega)
 have tWV40 := tWV39.only f40 (by omega) (by omega)
 clear cS039 cS139 cS239 cS339 cA039 cB039 cW039 cW139 cW239 cW339 cWV039 cG039 cG139 cG239 cG339 cGV039 tS39 tA39 tB39 tW39 tWV39 tG39
 have lcS040 : w.heap.size < w40.heap.size := blt cS040
 have lcA040 : w.heap.size + 1 < w40.heap.size := blt cA040
 have lcB040 : w.heap.size + 1 + 1 < w40.heap.size := blt cB040
 have lcW040 : gAW < w40.heap.size := blt cW040
 have lcWV040 : gBW < w40.heap.size := blt cWV040
 have lcG040 : w16.heap.size < w40.heap.size := blt cG040
 have lcGV040 : w16.heap.size + 1 < w40.heap.size := blt cGV040
 go_wp2_with fail
 refine name_call fun w41 hw41 => ?_
 have b41 : Below w.heap.size w w41 := by rw [hw41]; (repeat (with_reducible first | exact bR _ _ | assumption | refine bD ?_ | refine bN ?_ _ | refine bA ?_ _ | refine bS ?_ _))
 have z41 : w40.heap.size + 0 ≤ w41.heap.size := by rw [hw41]; simp
 have e41 : Below w40.heap.size w40 w41 := by rw [hw41]; (repeat (with_reducible first | exact bR _ _ | assumption | refine bD ?_ | refine bN ?_ _ | refine bA ?_ _ | refine bS ?_ _))
 have cS041 := ck e41 cS040
 have cS141 := ck e41 cS140
 have cS241 := ck e41 cS240
 have cS341 := ck e41 cS340
 have cA041 := ck e41 cA040
 have cB041 := ck e41 cB040
 have cW041 := ck e41 cW040
 have cW141 := ck e41 cW140
 have cW241 := ck e41 cW240
 have cW341 := ck e41 cW340
 have cWV041 := ck e41 cWV040
 have cG041 := ck e41 cG040
 have cG141 := ck e41 cG140
 have cG241 := ck e41 cG240
 have cG341 := ck e41 cG340
 have cGV041 := ck e41 cGV040
 have tS41 := tS40.keep e41 (by omega)
 have tA41 := tA40.keep e41 (by omega)
 have tB41 := tB40.keep e41 (by omega)
 have tW41 := tW40.keep e41 (by omega)
 have tWV41 := tWV40.keep e41 (by omega)
 have tG41 := q40.keep e41 (by omega)
 clear hw41 lcS040 lcA040 lcB040 lcW040 lcWV040 lcG040 lcGV040 cS040 cS140 cS240 cS340 cA040 cB040 cW040 cW140 cW240 cW340 cWV040 cG040 cG140 cG240 cG340 cGV040 tS40 tA40 tB40 tW40 tWV40
 refine (heldSys_any _ _ _ _ _ _ _ r 1 _ (tG41.sys) (by omega) (by omega)).mono ?_; rintro e w42 ⟨rfl, f42⟩
 have b42 := b41.trans (f42.mono (by omega))
 have z42 := f42.size
 have cS042 := ck f42 cS041
 have cS142 := ck f42 cS141
 have cS242 := ck f42 cS241
 have cS342 := ck f42 cS341
 have cA042 := ck f42 cA041
 have cB042 := ck f42 cB041
 have cW042 := ck f42 cW041
 have cW142 := ck f42 cW141
 have cW242 := ck f42 cW241
 have cW342 := ck f42 cW341
 have cWV042 := ck f42 cWV041
 have cG042 := ck f42 cG041
 have cG142 := ck f42 cG141
 have cG242 := ck f42 cG241
 have cG342 := ck f42 cG341
 have cGV042 := ck f42 cGV041
 have tS42 := tS41.keep f42 (by omega)
 have tA42 := tA41.keep f42 (by omega)
 have tB42 := tB41.keep f42 (by omega)
 have tW42 := tW41.keep f42 (by omega)
 have tWV42 := tWV41.keep f42 (by omega)
 have tG42 := tG41.keep f42 (by omega)
 clear cS041 cS141 cS241 cS341 cA041 cB041 cW041 cW141 cW241 cW341 cWV041 cG041 cG141 cG241 cG341 cGV041 tS41 tA41 tB41 tW41 tWV41 tG41
 have lcS042 : w.heap.size < w42.heap.size := blt cS042
 have lcA042 : w.heap.size + 1 < w42.heap.size := blt cA042
 have lcB042 : w.heap.size + 1 + 1 < w42.heap.size := blt cB042
 have lcW042 : gAW < w42.heap.size := blt cW042
 have lcWV042 : gBW < w42.heap.size := blt cWV042
 have lcG042 : w16.heap.size < w42.heap.size := blt cG042
 have lcGV042 : w16.heap.size + 1 < w42.heap.size := blt cGV042
 go_wp2_with fail
 refine name_call fun w43 hw43 => ?_
 have b43 : Below w.heap.size w w43 := by rw [hw43]; (repeat (with_reducible first | exact bR _ _ | assumption | refine bD ?_ | refine bN ?_ _ | refine bA ?_ _ | refine bS ?_ _))
 have z43 : w42.heap.size + 0 ≤ w43.heap.size := by rw [hw43]; simp
 have e43 : Below w42.heap.size w42 w43 := by rw [hw43]; (repeat (with_reducible first | exact bR _ _ | assumption | refine bD ?_ | refine bN ?_ _ | refine bA ?_ _ | refine bS ?_ _))
 have cS043 := ck e43 cS042
 have cS143 := ck e43 cS142
 have cS243 := ck e43 cS242
 have cS343 := ck e43 cS342
 have cA043 := ck e43 cA042
 have cB043 := ck e43 cB042
 have cW043 := ck e43 cW042
 have cW143 := ck e43 cW142
 have cW243 := ck e43 cW242
 have cW343 := ck e43 cW342
 have cWV043 := ck e43 cWV042
 have cG043 := ck e43 cG042
 have cG143 := ck e43 cG142
 have cG243 := ck e43 cG242
 have cG343 := ck e43 cG342
 have cGV043 := ck e43 cGV042
 have tS43 := tS42.keep e43 (by omega)
 have tA43 := tA42.keep e43 (by omega)
 have tB43 := tB42.keep e43 (by omega)
 have tW43 := tW42.keep e43 (by omega)
 have tWV43 := tWV42.keep e43 (by omega)
 have tG43 := tG42.keep e43 (by omega)
 clear hw43 lcS042 lcA042 lcB042 lcW042 lcWV042 lcG042 lcGV042 cS042 cS142 cS242 cS342 cA042 cB042 cW042 cW142 cW242 cW342 cWV042 cG042 cG142 cG242 cG342 cGV042 tS42 tA42 tB42 tW42 tWV42 tG42
 refine (heldLin_any _ _ _ _ v.length (1 + totS r) _ (tG43.snd) (by omega) (by omega) (by omega)).mono ?_; rintro e w44 ⟨rfl, f44⟩
 have b44 := b43.trans (f44.mono (by omega))
 have z44 := f44.size
 have cS044 := ck f44 cS043
 have cS144 := ck f44 cS143
 have cS244 := ck f44 cS243
 have cS344 := ck f44 cS343
 have cA044 := ck f44 cA043
 have cB044 := ck f44 cB043
 have cW044 := ck f44 cW043
 have cW144 := ck f44 cW143
 have cW244 := ck f44 cW243
 have cW344 := ck f44 cW343
 have cWV044 := ck f44 cWV043
 have cG044 := ck f44 cG043
 have cG144 := ck f44 cG143
 have cG244 := ck f44 cG243
 have cG344 := ck f44 cG343
 have cGV044 := ck f44 cGV043
 have tS44 := tS43.keep f44 (by omega)
 have tA44 := tA43.keep f44 (by omega)
 have tB44 := tB43.keep f44 (by omega)
 have tW44 := tW43.keep f44 (by omega)
 have tWV44 := tWV43.keep f44 (by omega)
 have tG44 := tG43.keep f44 (by omega)
 clear cS043 cS143 cS243 cS343 cA043 cB043 cW043 cW143 cW243 cW343 cWV043 cG043 cG143 cG243 cG343 cGV043 tS43 tA43 tB43 tW43 tWV43 tG43
 have lcS044 : w.heap.size < w44.heap.size := blt cS044
 have lcA044 : w.heap.size + 1 < w44.heap.size := blt cA044
 have lcB044 : w.heap.size + 1 + 1 < w44.heap.size := blt cB044
 have lcW044 : gAW < w44.heap.size := blt cW044
 have lcWV044 : gBW < w44.heap.size := blt cWV044
 have lcG044 : w16.heap.size < w44.heap.size := blt cG044
 have lcGV044 : w16.heap.size + 1 < w44.heap.size := blt cGV044
 go_wp2_with fail
 refine name_wp fun w45 hw45 => ?_
 have b45 : Below w.heap.size w w45 := by rw [hw45]; (repeat (with_reducible first | exact bR _ _ | assumption | refine bD ?_ | refine bN ?_ _ | refine bA ?_ _ | refine bS ?_ _))
 have z45 : w44.heap.size + 0 ≤ w45.heap.size := by rw [hw45]; simp
 have e45 : Below w44.heap.size w44 w45 := by rw [hw45]; (repeat (with_reducible first | exact bR _ _ | assumption | refine bD ?_ | refine bN ?_ _ | refine bA ?_ _ | refine bS ?_ _))
 have cS045 := ck e45 cS044
 have cS145 := ck e45 cS144
 have cS245 := ck e45 cS244
 have cS345 := ck e45 cS344
 have cA045 := ck e45 cA044
 have cB045 := ck e45 cB044
 have cW045 := ck e45 cW044
 have cW145 := ck e45 cW144
 have cW245 := ck e45 cW244
 have cW345 := ck e45 cW344
 have cWV045 := ck e45 cWV044
 have cG045 := ck e45 cG044
 have cG145 := ck e45 cG144
 have cG245 := ck e45 cG244
 have cG345 := ck e45 cG344
 have cGV045 := ck e45 cGV044
 have tS45 := tS44.keep e45 (by omega)
 have tA45 := tA44.keep e45 (by omega)
 have tB45 := tB44.keep e45 (by omega)
 have tW45 := tW44.keep e45 (by omega)
 have tWV45 := tWV44.keep e45 (by omega)
 have tG45 := tG44.keep e45 (by omega)
 clear hw45 lcS044 lcA044 lcB044 lcW044 lcWV044 lcG044 lcGV044 cS044 cS144 cS244 cS344 cA044 cB044 cW044 cW144 cW244 cW344 cWV044 cG044 cG144 cG244 cG344 cGV044 tS44 tA44 tB44 tW44 tWV44 tG44
 have d0H : Below w45.heap.size w45 w45.drew := (Below.refl _ _).drew
 have zrH : w45.drew.heap.size = w45.heap.size := rfl
 have US := tS45.keep d0H (by omega)
 have UA := tA45.keep d0H (by omega)
 have UB := tB45.keep d0H (by omega)
 have GS0 : w45.drew.cell? ⟨w.heap.size, 0, none⟩ = some (.int .i64 sS.ins) := cell_keep d0H cS045
 have GS1 : w45.drew.cell? ⟨w.heap.size, 1, none⟩ = some (.slice aoS sS.outs.length koS) := cell_keep d0H cS145
 have GS2 : w45.drew.cell? ⟨w.heap.size, 2, none⟩ = some (.slice ahS sS.hints.length khS) := cell_keep d0H cS245
 have GS3 : w45.drew.cell? ⟨w.heap.size, 3, none⟩ = some (.slice acS sS.cons.length kcS) := cell_keep d0H cS345
 have GA0 : w45.drew.cell? ⟨w.heap.size + 1, 0, none⟩ = some (.slice aA tsA.length kA) := cell_keep d0H cA045
 have GB0 : w45.drew.cell? ⟨w.heap.size + 1 + 1, 0, none⟩ = some (.slice aB tsB.length kB) := cell_keep d0H cB045
 go_cut [22, 23, 24] (fun s22 s23 s24 wx => CutSL w45.drew r v ok s22 s23 s24 wx)
 case first =>
  rename_i J K' hJ hK
  refine wp_region_drawn [22, 23, 24, 144, 145, 146, 147, 148, 149, 150, 151, 152, 153, 154, 155] (fun d u wx => Below w45.drew.heap.size w45.drew wx ∧ (d 0 = true → u 145 = .agg #[.int .i64 sS.ins, .slice aoS sS.outs.length koS, .slice ahS sS.hints.length khS, .slice acS sS.cons.length kcS]) ∧ ArgSys (d 1) (d 7) sS (u 146) wx ∧ (d 2 = true → u 147 = .agg #[.slice aA tsA.length kA]) ∧ ArgLin (d 3) (d 7) tsA (u 148) wx ∧ (d 4 = true → u 149 = .agg #[.slice aB tsB.length kB]) ∧ ArgLin (d 5) (d 7) tsB (u 150) wx ∧ (d 6 = true → u 151 = .int .i64 nN) ∧ ResSL w45.drew r v ok (d 7) (d 8) (d 9) (d 10) (d 11) (d 12) (d 13) (d 14) (d 15) (d 16) (u 152) (u 144) (u 153) (u 154) (u 155) (u 22) (u 23) (u 24) wx) (by kernel_rfl) (by kernel_rfl) (by kernel_rfl) ?_ ?_ ?_
  ·intro u; exact ⟨Below.refl _ _, vac rfl, ArgSys.none, vac rfl, ArgLin.none, vac rfl, ArgLin.none, vac rfl, ResSL.start⟩
  ·refine ⟨?_, ?_, ?_, ?_, ?_, ?_, ?_, ?_, ?_, ?_, ?_, ?_, ?_, ?_, ?_, ?_, ?_, trivial⟩
   ·intro d u wx h0 hd hF
    obtain ⟨hb, f0, f1, f2, f3, f4, f5, f6, fR⟩ := hF
    have sz := hb.size
    refine Wpv.env fun ρ hin hout hcon hfun => ?_
    have E4 : ρ (.tmp 4) = .pointer (some ⟨w.heap.size, 0, none⟩) := (hout 4 (by kernel_rfl)).trans (by kernel_rfl)
    clear hin hout
    have c0 := cell_keep hb GS0
    have c1 := cell_keep hb GS1
    have c2 := cell_keep hb GS2
    have c3 := cell_keep hb GS3
    refine Wpv.value (v := .agg #[.int .i64 sS.ins, .slice aoS sS.outs.length koS, .slice ahS sS.hints.length khS, .slice acS sS.cons.length kcS]) (w' := wx) ?_ ⟨hb, fun _ => rfl, f1, f2, f3, f4, f5, f6, fR⟩
    clear f0 f1 f2 f3 f4 f5 f6 fR
    simp only [execOp]; rw [E4]; go_simp
   ·intro d u wx h0 hd hF
    obtain ⟨hb, f0, f1, f2, f3, f4, f5, f6, fR⟩ := hF
    have sz := hb.size
    refine Wpv.env fun ρ hin hout hcon hfun => ?_
    have E145 := hin 145 (by kernel_rfl)
    clear hin hout
    have e := E145.trans (f0 (hd.get (j := 0) (by kernel_rfl)))
    have t := US.keep hb (by omega)
    refine Wpv.enter (f := 7) (args := #[.agg #[.int .i64 sS.ins, .slice aoS sS.outs.length koS, .slice ahS sS.hints.length khS, .slice acS sS.cons.length kcS]]) (w' := wx) (by clear f0 f1 f2 f3 f4 f5 f6 fR t E145; go_simp) (toSys_any _ _ _ _ _ _ _ sS wx t (by omega) (by omega)) ?_
    rintro e' w' ⟨a1, a2, a3, rfl, j1, t1⟩
    exact ⟨_, rfl, ⟨hb.trans (j1.mono sz), f0, ArgSys.new t1, f2, f3.keep j1, f4, f5.keep j1, f6, fR.keep j1⟩⟩
   ·intro d u wx h0 hd hF
    obtain ⟨hb, f0, f1, f2, f3, f4, f5, f6, fR⟩ := hF
    have sz := hb.size
    refine Wpv.env fun ρ hin hout hcon hfun => ?_
    have E5 : ρ (.tmp 5) = .pointer (some ⟨w.heap.size + 1, 0, none⟩) := (hout 5 (by kernel_rfl)).trans (by kernel_rfl)
    clear hin hout
    have c0 := cell_keep hb GA0
    refine Wpv.value (v := .agg #[.slice aA tsA.length kA]) (w' := wx) ?_ ⟨hb, f0, f1, fun _ => rfl, f3, f4, f5, f6, fR⟩
    clear f0 f1 f2 f3 f4 f5 f6 fR
    simp only [execOp]; rw [E5]; go_simp
   ·intro d u wx h0 hd hF
    obtain ⟨hb, f0, f1, f2, f3, f4, f5, f6, fR⟩ := hF
    have sz := hb.size
    refine Wpv.env fun ρ hin hout hcon hfun => ?_
    have E147 := hin 147 (by kernel_rfl)
    clear hin hout
    have e := E147.trans (f2 (hd.get (j := 2) (by kernel_rfl)))
    have t := UA.keep hb (by omega)
    refine Wpv.enter (f := 8) (args := #[.agg #[.slice aA tsA.length kA]]) (w' := wx) (by clear f0 f1 f2 f3 f4 f5 f6 fR t E147; go_simp) (toLin_any _ _ _ _ tsA wx t (by omega) (by omega)) ?_
    rintro e' w' ⟨a1, rfl, j1, t1⟩
    exact ⟨_, rfl, ⟨hb.trans (j1.mono sz), f0, f1.keep j1, f2, ArgLin.new t1, f4, f5.keep j1, f6, fR.keep j1⟩⟩
   ·intro d u wx h0 hd hF
    obtain ⟨hb, f0, f1, f2, f3, f4, f5, f6, fR⟩ := hF
    have sz := hb.size
    refine Wpv.env fun ρ hin hout hcon hfun => ?_
    have E6 : ρ (.tmp 6) = .pointer (some ⟨w.heap.size + 1 + 1, 0, none⟩) := (hout 6 (by kernel_rfl)).trans (by kernel_rfl)
    clear hin hout
    have c0 := cell_keep hb GB0
    refine Wpv.value (v := .agg #[.slice aB tsB.length kB]) (w' := wx) ?_ ⟨hb, f0, f1, f2, f3, fun _ => rfl, f5, f6, fR⟩
    clear f0 f1 f2 f3 f4 f5 f6 fR
    simp only [execOp]; rw [E6]; go_simp
   ·intro d u wx h0 hd hF
    obtain ⟨hb, f0, f1, f2, f3, f4, f5, f6, fR⟩ := hF
    have sz := hb.size
    refine Wpv.env fun ρ hin hout hcon hfun => ?_
    have E149 := hin 149 (by kernel_rfl)
    clear hin hout
    have e := E149.trans (f4 (hd.get (j := 4) (by kernel_rfl)))
    have t := UB.keep hb (by omega)
    refine Wpv.enter (f := 8) (args := #[.agg #[.slice aB tsB.length kB]]) (w' := wx) (by clear f0 f1 f2 f3 f4 f5 f6 fR t E149; go_simp) (toLin_any _ _ _ _ tsB wx t (by omega) (by omega)) ?_
    rintro e' w' ⟨a1, rfl, j1, t1⟩
    exact ⟨_, rfl, ⟨hb.trans (j1.mono sz), f0, f1.keep j1, f2, f3.keep j1, f4, ArgLin.new t1, f6, fR.keep j1⟩⟩
   ·intro d u wx h0 hd hF
    obtain ⟨hb, f0, f1, f2, f3, f4, f5, f6, fR⟩ := hF
    have sz := hb.size
    refine Wpv.env fun ρ hin hout hcon hfun => ?_
    have E3 : ρ (.tmp 3) = .int .i64 nN := (hout 3 (by kernel_rfl)).trans (by kernel_rfl)
    clear hin hout
    exact Wpv.value (v := .int .i64 nN) (by simp only [execOp]; rw [E3]; rfl) ⟨hb, f0, f1, f2, f3, f4, f5, fun _ => rfl, fR⟩
   ·intro d u wx h0 hd hF
    obtain ⟨hb, f0, f1, f2, f3, f4, f5, f6, fR⟩ := hF
    have sz := hb.size
    refine Wpv.env fun ρ hin hout hcon hfun => ?_
    have E146 := hin 146 (by kernel_rfl)
    have E148 := hin 148 (by kernel_rfl)
    have E150 := hin 150 (by kernel_rfl)
    have E151 := hin 151 (by kernel_rfl)
    clear hin hout
    obtain ⟨x1S, x2S, x3S, e0S, tS⟩ := f1 (hd.get (j := 1) (by kernel_rfl)) h0
    have eS := E146.trans e0S
    obtain ⟨x1A, e0A, tA⟩ := f3 (hd.get (j := 3) (by kernel_rfl)) h0
    have eA := E148.trans e0A
    obtain ⟨x1B, e0B, tB⟩ := f5 (hd.get (j := 5) (by kernel_rfl)) h0
    have eB := E150.trans e0B
    have eN := E151.trans (f6 (hd.get (j := 6) (by kernel_rfl)))
    rw [h0] at fR
    refine Wpv.enter (f := 9) (args := #[.agg #[.int .i64 sS.ins, x1S, x2S, x3S], .agg #[x1A], .agg #[x1B], .int .i64 nN]) (w' := wx) (by clear E146 E148 E150 E151 tS tA tB e0S e0A e0B f0 f1 f2 f3 f4 f5 f6 fR; go_simp) (addLess_impl _ _ _ _ _ _ _ sS _ _ _ _ tsA _ _ _ _ tsB nN _ tS (Nat.le_refl _) sm tA (Nat.le_refl _) tB (Nat.le_refl _) (by omega) (by omega) n Hn.out m Hm.out ok r v Ho Hr Hv) ?_
    intro e' w' hq
    obtain ⟨uu, hu, j1, hr⟩ := ResSL.main fR hb hq
    exact ⟨uu, hu, ⟨hb.trans (j1.mono sz), f0, ArgSys.past, f2, ArgLin.past, f4, ArgLin.past, f6, hr⟩⟩
   ·intro d u wx h0 hd hF
    obtain ⟨hb, f0, f1, f2, f3, f4, f5, f6, fR⟩ := hF
    have sz := hb.size
    refine Wpv.env fun ρ hin hout hcon hfun => ?_
    have E152 := hin 152 (by kernel_rfl)
    clear hin hout
    exact Wpv.value (v := u 152) (by simp only [execOp]; rw [E152]; rfl) ⟨hb, f0, f1, f2, f3, f4, f5, f6, (ResSL.moveD (hd.get (j := 7) (by kernel_rfl)) fR)⟩
   ·intro d u wx h0 hd hF
    obtain ⟨hb, f0, f1, f2, f3, f4, f5, f6, fR⟩ := hF
    have sz := hb.size
    refine Wpv.env fun ρ hin hout hcon hfun => ?_
    have E144 := hin 144 (by kernel_rfl)
    clear hin hout
    have hm : d 8 = true := hd.get (j := 8) (by kernel_rfl)
    obtain ⟨x, y, b, e⟩ := ResSL.tupD hm fR
    have e1 := E144.trans e
    refine Wpv.value (v := x) (w' := wx) (by clear e E144 f0 f1 f2 f3 f4 f5 f6 fR; go_simp) ⟨hb, f0, f1, f2, f3, f4, f5, f6, (ResSL.ex0D hm e fR)⟩
   ·intro d u wx h0 hd hF
    obtain ⟨hb, f0, f1, f2, f3, f4, f5, f6, fR⟩ := hF
    have sz := hb.size
    refine Wpv.env fun ρ hin hout hcon hfun => ?_
    have E144 := hin 144 (by kernel_rfl)
    clear hin hout
    have hm : d 8 = true := hd.get (j := 8) (by kernel_rfl)
    obtain ⟨x, y, b, e⟩ := ResSL.tupD hm fR
    have e1 := E144.trans e
    refine Wpv.value (v := y) (w' := wx) (by clear e E144 f0 f1 f2 f3 f4 f5 f6 fR; go_simp) ⟨hb, f0, f1, f2, f3, f4, f5, f6, (ResSL.ex1D hm e fR)⟩
   ·intro d u wx h0 hd hF
    obtain ⟨hb, f0, f1, f2, f3, f4, f5, f6, fR⟩ := hF
    have sz := hb.size
    refine Wpv.env fun ρ hin hout hcon hfun => ?_
    have E144 := hin 144 (by kernel_rfl)
    clear hin hout
    have hm : d 8 = true := hd.get (j := 8) (by kernel_rfl)
    obtain ⟨x, y, b, e⟩ := ResSL.tupD hm fR
    have e1 := E144.trans e
    refine Wpv.value (v := b) (w' := wx) (by clear e E144 f0 f1 f2 f3 f4 f5 f6 fR; go_simp) ⟨hb, f0, f1, f2, f3, f4, f5, f6, (ResSL.ex2D hm e fR)⟩
   ·intro d u wx h0 hd hF
    obtain ⟨hb, f0, f1, f2, f3, f4, f5, f6, fR⟩ := hF
    have sz := hb.size
    refine Wpv.env fun ρ hin hout hcon hfun => ?_
    clear hin hout
    rw [h0] at fR
    have j1 : Below wx.heap.size wx (wx.alloc (.cells #[.int .i64 0, .slice none 0 0, .slice none 0 0, .slice none 0 0] 36)) := balloc (Nat.le_refl _) (Below.refl _ _) _
    refine Wpv.value (v := .pointer (some ⟨wx.heap.size, 0, none⟩)) (w' := wx.alloc (.cells #[.int .i64 0, .slice none 0 0, .slice none 0 0, .slice none 0 0] 36)) (by clear f0 f1 f2 f3 f4 f5 f6 fR; go_simp) ⟨hb.trans (j1.mono sz), f0, f1.keep j1, f2, f3.keep j1, f4, f5.keep j1, f6, fR.boxA hb⟩
   ·intro d u wx h0 hd hF
    obtain ⟨hb, f0, f1, f2, f3, f4, f5, f6, fR⟩ := hF
    have sz := hb.size
    refine Wpv.env fun ρ hin hout hcon hfun => ?_
    clear hin hout
    rw [h0] at fR
    have j1 : Below wx.heap.size wx (wx.alloc (.cells #[.slice none 0 0] 39)) := balloc (Nat.le_refl _) (Below.refl _ _) _
    refine Wpv.value (v := .pointer (some ⟨wx.heap.size, 0, none⟩)) (w' := wx.alloc (.cells #[.slice none 0 0] 39)) (by clear f0 f1 f2 f3 f4 f5 f6 fR; go_simp) ⟨hb.trans (j1.mono sz), f0, f1.keep j1, f2, f3.keep j1, f4, f5.keep j1, f6, fR.boxB hb⟩
   ·intro d u wx h0 hd hF
    obtain ⟨hb, f0, f1, f2, f3, f4, f5, f6, fR⟩ := hF
    have sz := hb.size
    refine Wpv.env fun ρ hin hout hcon hfun => ?_
    have E22 := hin 22 (by kernel_rfl)
    have E153 := hin 153 (by kernel_rfl)
    clear hin hout
    have m : d 7 = true := (ResSL.upD (Or.inl (hd.get (j := 9) (by kernel_rfl))) fR)
    obtain ⟨gg, n0, a1, n1, k1, a2, n2, k2, a3, n3, k3, z0, z1, z2, z3, e1, e2, fr, bx⟩ := ResSL.preAD (hd.get (j := 9) (by kernel_rfl)) (hd.get (j := 12) (by kernel_rfl)) fR
    obtain ⟨c0, c1, c2, c3⟩ := id bx
    obtain ⟨r0, r1, r2, r3⟩ := id fr
    obtain ⟨lg, fR'⟩ := ResSL.setAD (hd.get (j := 9) (by kernel_rfl)) (hd.get (j := 12) (by kernel_rfl)) e1 e2 fR
    have y1 := E22.trans e1
    have y2 := E153.trans e2
    refine Wpv.skip (w' := set4 wx gg (.int .i64 n0) (.slice a1 n1 k1) (.slice a2 n2 k2) (.slice a3 n3 k3)) (by unfold set4; clear fR' e1 e2 E22 E153 bx fr f0 f1 f2 f3 f4 f5 f6 fR; go_simp) ?_
    exact ⟨set4_below hb lg _ _ _ _, f0, ArgSys.pastD m, f2, ArgLin.pastD m, f4, ArgLin.pastD m, f6, fR'⟩
   ·intro d u wx h0 hd hF
    obtain ⟨hb, f0, f1, f2, f3, f4, f5, f6, fR⟩ := hF
    have sz := hb.size
    refine Wpv.env fun ρ hin hout hcon hfun => ?_
    have E23 := hin 23 (by kernel_rfl)
    have E154 := hin 154 (by kernel_rfl)
    clear hin hout
    have m : d 7 = true := (ResSL.upD (Or.inr (hd.get (j := 10) (by kernel_rfl))) fR)
    obtain ⟨gg, a1, n1, k1, z0, e1, e2, r0, c0⟩ := ResSL.preBD (hd.get (j := 10) (by kernel_rfl)) (hd.get (j := 13) (by kernel_rfl)) fR
    obtain ⟨lg, fR'⟩ := ResSL.setBD (hd.get (j := 10) (by kernel_rfl)) (hd.get (j := 13) (by kernel_rfl)) e1 e2 fR
    have y1 := E23.trans e1
    have y2 := E154.trans e2
    refine Wpv.skip (w' := wx.setCell ⟨gg, 0, none⟩ (.slice a1 n1 k1)) (by clear fR' e1 e2 E23 E154 f0 f1 f2 f3 f4 f5 f6 fR; go_simp) ?_
    exact ⟨bset lg hb _, f0, ArgSys.pastD m, f2, ArgLin.pastD m, f4, ArgLin.pastD m, f6, fR'⟩
   ·intro d u wx h0 hd hF
    obtain ⟨hb, f0, f1, f2, f3, f4, f5, f6, fR⟩ := hF
    have sz := hb.size
    refine Wpv.env fun ρ hin hout hcon hfun => ?_
    have E155 := hin 155 (by kernel_rfl)
    clear hin hout
    exact Wpv.value (v := u 155) (by simp only [execOp]; rw [E155]; rfl) ⟨hb, f0, f1, f2, f3, f4, f5, f6, (ResSL.finD (hd.get (j := 11) (by kernel_rfl)) fR)⟩
  ·intro d u wx hall hF
   obtain ⟨hb, f0, f1, f2, f3, f4, f5, f6, fR⟩ := hF
   have fC := ResSL.cutD fR hb (hall 7 (by decide)) (hall 12 (by decide)) (hall 13 (by decide)) (hall 14 (by decide)) (hall 15 (by decide)) (hall 16 (by decide))
   clear f0 f1 f2 f3 f4 f5 f6 fR
   refine hK _ _ (Met.intro (hJ _ _ ?_))
   simp only [setF, List.foldl_cons, List.foldl_nil, Act.put, List.setIfInBounds_toArray, List.set_cons_zero, List.set_cons_succ]
   repeat apply Exists.intro
   exact ⟨fC, rfl⟩
 obtain ⟨gAH, gBH, ui, uo, uh, uc, uv, rfl, rfl, rfl, hgAH, hgBH, ⟨b0, b1, b2, b3⟩, b4, tW, tV, bW⟩ := hcut
 obtain ⟨aoH, koH, ahH, khH, acH, kcH, rfl, rfl, rfl, rfl, loH, boH, lhH, bhH, lcH, bcH, fiH⟩ := id tW.shape
 obtain ⟨aHV, kHV, rfl, laHV, baHV⟩ := id tV.shape
 obtain ⟨w46, hw46⟩ : ∃ x, x = wc := ⟨_, rfl⟩
 subst hw46
 have f46 : Below w45.heap.size w45 w46 := d0H.trans bW
 have b46 := b45.trans (f46.mono (by omega))
 have z46 := f46.size
 have cS046 := ck f46 cS045
 have cS146 := ck f46 cS145
 have cS246 := ck f46 cS245
 have cS346 := ck f46 cS345
 have cA046 := ck f46 cA045
 have cB046 := ck f46 cB045
 have cW046 := ck f46 cW045
 have cW146 := ck f46 cW145
 have cW246 := ck f46 cW245
 have cW346 := ck f46 cW345
 have cWV046 := ck f46 cWV045
 have cG046 := ck f46 cG045
 have cG146 := ck f46 cG145
 have cG246 := ck f46 cG245
 have cG346 := ck f46 cG345
 have cGV046 := ck f46 cGV045
 have tS46 := tS45.keep f46 (by omega)
 have tA46 := tA45.keep f46 (by omega)
 have tB46 := tB45.keep f46 (by omega)
 have tW46 := tW45.keep f46 (by omega)
 have tWV46 := tWV45.keep f46 (by omega)
 have tG46 := tG45.keep f46 (by omega)
 clear cS045 cS145 cS245 cS345 cA045 cB045 cW045 cW145 cW245 cW345 cWV045 cG045 cG145 cG245 cG345 cGV045 tS45 tA45 tB45 tW45 tWV45 tG45 US UA UB GS0 GS1 GS2 GS3 GA0 GB0
 have b0H := b0; clear b0
 have b1H := b1; clear b1
 have b2H := b2; clear b2
 have b3H := b3; clear b3
 have lgAH : gAH < w46.heap.size := World.block_lt_of_cell? _ _ b0H
 have lgBH : gBH < w46.heap.size := World.block_lt_of_cell? _ _ b4
 have b4H := b4; clear b4
 have tH46 := tW; clear tW
 have tHV46 := tV; clear tV
 have lcS046 : w.heap.size < w46.heap.size := blt cS046
 have lcA046 : w.heap.size + 1 < w46.heap.size := blt cA046
 have lcB046 : w.heap.size + 1 + 1 < w46.heap.size := blt cB046
 have lcW046 : gAW < w46.heap.size := blt cW046
 have lcWV046 : gBW < w46.heap.size := blt cWV046
 have lcG046 : w16.heap.size < w46.heap.size := blt cG046
 have lcGV046 : w16.heap.size + 1 < w46.heap.size := blt cGV046
 have lb0H : gAH < w46.heap.size := blt b0H
 have lb4H : gBH < w46.heap.size := blt b4H
 go_wp2_with fail
 refine name_call fun w47 hw47 => ?_
 have b47 : Below w.heap.size w w47 := by rw [hw47]; (repeat (with_reducible first | exact bR _ _ | assumption | refine bD ?_ | refine bN ?_ _ | refine bA ?_ _ | refine bS ?_ _))
 have z47 : w46.heap.size + 0 ≤ w47.heap.size := by rw [hw47]; simp
 have e47 : Below w46.heap.size w46 w47 := by rw [hw47]; (repeat (with_reducible first | exact bR _ _ | assumption | refine bD ?_ | refine bN ?_ _ | refine bA ?_ _ | refine bS ?_ _))
 have cS047 := ck e47 cS046
 have cS147 := ck e47 cS146
 have cS247 := ck e47 cS246
 have cS347 := ck e47 cS346
 have cA047 := ck e47 cA046
 have cB047 := ck e47 cB046
 have cW047 := ck e47 cW046
 have cW147 := ck e47 cW146
 have cW247 := ck e47 cW246
 have cW347 := ck e47 cW346
 have cWV047 := ck e47 cWV046
 have cG047 := ck e47 cG046
 have cG147 := ck e47 cG146
 have cG247 := ck e47 cG246
 have cG347 := ck e47 cG346
 have cGV047 := ck e47 cGV046
 have cH047 := ck e47 b0H
 have cH147 := ck e47 b1H
 have cH247 := ck e47 b2H
 have cH347 := ck e47 b3H
 have cHV047 := ck e47 b4H
 have tS47 := tS46.keep e47 (by omega)
 have tA47 := tA46.keep e47 (by omega)
 have tB47 := tB46.keep e47 (by omega)
 have tW47 := tW46.keep e47 (by omega)
 have tWV47 := tWV46.keep e47 (by omega)
 have tG47 := tG46.keep e47 (by omega)
 have tH47 := tH46.keep e47 (by omega)
 have tHV47 := tHV46.keep e47 (by omega)
 clear hw47 lcS046 lcA046 lcB046 lcW046 lcWV046 lcG046 lcGV046 lb0H lb4H cS046 cS146 cS246 cS346 cA046 cB046 cW046 cW146 cW246 cW346 cWV046 cG046 cG146 cG246 cG346 cGV046 b0H b1H b2H b3H b4H tS46 tA46 tB46 tW46 tWV46 tG46 tH46 tHV46
 refine (eqSys_same _ _ _ _ _ _ _ _ _ _ _ _ _ _ r _ (tH47) (tW47) (by omega) (by omega)).mono ?_; rintro e w48 ⟨rfl, f48⟩
 have b48 := b47.trans (f48.mono (by omega))
 have z48 := f48.size
 have cS048 := ck f48 cS047
 have cS148 := ck f48 cS147
 have cS248 := ck f48 cS247
 have cS348 := ck f48 cS347
 have cA048 := ck f48 cA047
 have cB048 := ck f48 cB047
 have cW048 := ck f48 cW047
 have cW148 := ck f48 cW147
 have cW248 := ck f48 cW247
 have cW348 := ck f48 cW347
 have cWV048 := ck f48 cWV047
 have cG048 := ck f48 cG047
 have cG148 := ck f48 cG147
 have cG248 := ck f48 cG247
 have cG348 := ck f48 cG347
 have cGV048 := ck f48 cGV047
 have cH048 := ck f48 cH047
 have cH148 := ck f48 cH147
 have cH248 := ck f48 cH247
 have cH348 := ck f48 cH347
 have cHV048 := ck f48 cHV047
 have tS48 := tS47.keep f48 (by omega)
 have tA48 := tA47.keep f48 (by omega)
 have tB48 := tB47.keep f48 (by omega)
 have tW48 := tW47.keep f48 (by omega)
 have tWV48 := tWV47.keep f48 (by omega)
 have tG48 := tG47.keep f48 (by omega)
 have tH48 := tH47.keep f48 (by omega)
 have tHV48 := tHV47.keep f48 (by omega)
 clear cS047 cS147 cS247 cS347 cA047 cB047 cW047 cW147 cW247 cW347 cWV047 cG047 cG147 cG247 cG347 cGV047 cH047 cH147 cH247 cH347 cHV047 tS47 tA47 tB47 tW47 tWV47 tG47 tH47 tHV47
 have lcS048 : w.heap.size < w48.heap.size := blt cS048
 have lcA048 : w.heap.size + 1 < w48.heap.size := blt cA048
 have lcB048 : w.heap.size + 1 + 1 < w48.heap.size := blt cB048
 have lcW048 : gAW < w48.heap.size := blt cW048
 have lcWV048 : gBW < w48.heap.size := blt cWV048
 have lcG048 : w16.heap.size < w48.heap.size := blt cG048
 have lcGV048 : w16.heap.size + 1 < w48.heap.size := blt cGV048
 have lcH048 : gAH < w48.heap.size := blt cH048
 have lcHV048 : gBH < w48.heap.size := blt cHV048
 go_wp2_with fail
 refine name_call fun w49 hw49 => ?_
 have b49 : Below w.heap.size w w49 := by rw [hw49]; (repeat (with_reducible first | exact bR _ _ | assumption | refine bD ?_ | refine bN ?_ _ | refine bA ?_ _ | refine bS ?_ _))
 have z49 : w48.heap.size + 0 ≤ w49.heap.size := by rw [hw49]; simp
 have e49 : Below w48.heap.size w48 w49 := by rw [hw49]; (repeat (with_reducible first | exact bR _ _ | assumption | refine bD ?_ | refine bN ?_ _ | refine bA ?_ _ | refine bS ?_ _))
 have cS049 := ck e49 cS048
 have cS149 := ck e49 cS148
 have cS249 := ck e49 cS248
 have cS349 := ck e49 cS348
 have cA049 := ck e49 cA048
 have cB049 := ck e49 cB048
 have cW049 := ck e49 cW048
 have cW149 := ck e49 cW148
 have cW249 := ck e49 cW248
 have cW349 := ck e49 cW348
 have cWV049 := ck e49 cWV048
 have cG049 := ck e49 cG048
 have cG149 := ck e49 cG148
 have cG249 := ck e49 cG248
 have cG349 := ck e49 cG348
 have cGV049 := ck e49 cGV048
 have cH049 := ck e49 cH048
 have cH149 := ck e49 cH148
 have cH249 := ck e49 cH248
 have cH349 := ck e49 cH348
 have cHV049 := ck e49 cHV048
 have tS49 := tS48.keep e49 (by omega)
 have tA49 := tA48.keep e49 (by omega)
 have tB49 := tB48.keep e49 (by omega)
 have tW49 := tW48.keep e49 (by omega)
 have tWV49 := tWV48.keep e49 (by omega)
 have tG49 := tG48.keep e49 (by omega)
 have tH49 := tH48.keep e49 (by omega)
 have tHV49 := tHV48.keep e49 (by omega)
 clear hw49 lcS048 lcA048 lcB048 lcW048 lcWV048 lcG048 lcGV048 lcH048 lcHV048 cS048 cS148 cS248 cS348 cA048 cB048 cW048 cW148 cW248 cW348 cWV048 cG048 cG148 cG248 cG348 cGV048 cH048 cH148 cH248 cH348 cHV048 tS48 tA48 tB48 tW48 tWV48 tG48 tH48 tHV48
 refine (eqLin_same _ _ _ _ _ _ _ _ v _ (tHV49) (tWV49) (by omega) (by omega)).mono ?_; rintro e w50 ⟨rfl, f50⟩
 have b50 := b49.trans (f50.mono (by omega))
 have z50 := f50.size
 have cS050 := ck f50 cS049
 have cS150 := ck f50 cS149
 have cS250 := ck f50 cS249
 have cS350 := ck f50 cS349
 have cA050 := ck f50 cA049
 have cB050 := ck f50 cB049
 have cW050 := ck f50 cW049
 have cW150 := ck f50 cW149
 have cW250 := ck f50 cW249
 have cW350 := ck f50 cW349
 have cWV050 := ck f50 cWV049
 have cG050 := ck f50 cG049
 have cG150 := ck f50 cG149
 have cG250 := ck f50 cG249
 have cG350 := ck f50 cG349
 have cGV050 := ck f50 cGV049
 have cH050 := ck f50 cH049
 have cH150 := ck f50 cH149
 have cH250 := ck f50 cH249
 have cH350 := ck f50 cH349
 have cHV050 := ck f50 cHV049
 have tS50 := tS49.keep f50 (by omega)
 have tA50 := tA49.keep f50 (by omega)
 have tB50 := tB49.keep f50 (by omega)
 have tW50 := tW49.keep f50 (by omega)
 have tWV50 := tWV49.keep f50 (by omega)
 have tG50 := tG49.keep f50 (by omega)
 have tH50 := tH49.keep f50 (by omega)
 have tHV50 := tHV49.keep f50 (by omega)
 clear cS049 cS149 cS249 cS349 cA049 cB049 cW049 cW149 cW249 cW349 cWV049 cG049 cG149 cG249 cG349 cGV049 cH049 cH149 cH249 cH349 cHV049 tS49 tA49 tB49 tW49 tWV49 tG49 tH49 tHV49
 have lcS050 : w.heap.size < w50.heap.size := blt cS050
 have lcA050 : w.heap.size + 1 < w50.heap.size := blt cA050
 have lcB050 : w.heap.size + 1 + 1 < w50.heap.size := blt cB050
 have lcW050 : gAW < w50.heap.size := blt cW050
 have lcWV050 : gBW < w50.heap.size := blt cWV050
 have lcG050 : w16.heap.size < w50.heap.size := blt cG050
 have lcGV050 : w16.heap.size + 1 < w50.heap.size := blt cGV050
 have lcH050 : gAH < w50.heap.size := blt cH050
 have lcHV050 : gBH < w50.heap.size := blt cHV050
 go_wp2_with fail
 refine name_call fun w51 hw51 => ?_
 have b51 : Below w.heap.size w w51 := by rw [hw51]; (repeat (with_reducible first | exact bR _ _ | assumption | refine bD ?_ | refine bN ?_ _ | refine bA ?_ _ | refine bS ?_ _))
 have z51 : w50.heap.size + 0 ≤ w51.heap.size := by rw [hw51]; simp
 have e51 : Below w50.heap.size w50 w51 := by rw [hw51]; (repeat (with_reducible first | exact bR _ _ | assumption | refine bD ?_ | refine bN ?_ _ | refine bA ?_ _ | refine bS ?_ _))
 have cS051 := ck e51 cS050
 have cS151 := ck e51 cS150
 have cS251 := ck e51 cS250
 have cS351 := ck e51 cS350
 have cA051 := ck e51 cA050
 have cB051 := ck e51 cB050
 have cW051 := ck e51 cW050
 have cW151 := ck e51 cW150
 have cW251 := ck e51 cW250
 have cW351 := ck e51 cW350
 have cWV051 := ck e51 cWV050
 have cG051 := ck e51 cG050
 have cG151 := ck e51 cG150
 have cG251 := ck e51 cG250
 have cG351 := ck e51 cG350
 have cGV051 := ck e51 cGV050
 have cH051 := ck e51 cH050
 have cH151 := ck e51 cH150
 have cH251 := ck e51 cH250
 have cH351 := ck e51 cH350
 have cHV051 := ck e51 cHV050
 have tS51 := tS50.keep e51 (by omega)
 have tA51 := tA50.keep e51 (by omega)
 have tB51 := tB50.keep e51 (by omega)
 have tW51 := tW50.keep e51 (by omega)
 have tWV51 := tWV50.keep e51 (by omega)
 have tG51 := tG50.keep e51 (by omega)
 have tH51 := tH50.keep e51 (by omega)
 have tHV51 := tHV50.keep e51 (by omega)
 clear hw51 lcS050 lcA050 lcB050 lcW050 lcWV050 lcG050 lcGV050 lcH050 lcHV050 cS050 cS150 cS250 cS350 cA050 cB050 cW050 cW150 cW250 cW350 cWV050 cG050 cG150 cG250 cG350 cGV050 cH050 cH150 cH250 cH350 cHV050 tS50 tA50 tB50 tW50 tWV50 tG50 tH50 tHV50
 refine (heldSys_any _ _ _ _ _ _ _ r 1 _ (tG51.sys) (by omega) (by omega)).mono ?_; rintro e w52 ⟨rfl, f52⟩
 have b52 := b51.trans (f52.mono (by omega))
 have z52 := f52.size
 have cS052 := ck f52 cS051
 have cS152 := ck f52 cS151
 have cS252 := ck f52 cS251
 have cS352 := ck f52 cS351
 have cA052 := ck f52 cA051
 have cB052 := ck f52 cB051
 have cW052 := ck f52 cW051
 have cW152 := ck f52 cW151
 have cW252 := ck f52 cW251
 have cW352 := ck f52 cW351
 have cWV052 := ck f52 cWV051
 have cG052 := ck f52 cG051
 have cG152 := ck f52 cG151
 have cG252 := ck f52 cG251
 have cG352 := ck f52 cG351
 have cGV052 := ck f52 cGV051
 have cH052 := ck f52 cH051
 have cH152 := ck f52 cH151
 have cH252 := ck f52 cH251
 have cH352 := ck f52 cH351
 have cHV052 := ck f52 cHV051
 have tS52 := tS51.keep f52 (by omega)
 have tA52 := tA51.keep f52 (by omega)
 have tB52 := tB51.keep f52 (by omega)
 have tW52 := tW51.keep f52 (by omega)
 have tWV52 := tWV51.keep f52 (by omega)
 have tG52 := tG51.keep f52 (by omega)
 have tH52 := tH51.keep f52 (by omega)
 have tHV52 := tHV51.keep f52 (by omega)
 clear cS051 cS151 cS251 cS351 cA051 cB051 cW051 cW151 cW251 cW351 cWV051 cG051 cG151 cG251 cG351 cGV051 cH051 cH151 cH251 cH351 cHV051 tS51 tA51 tB51 tW51 tWV51 tG51 tH51 tHV51
 have lcS052 : w.heap.size < w52.heap.size := blt cS052
 have lcA052 : w.heap.size + 1 < w52.heap.size := blt cA052
 have lcB052 : w.heap.size + 1 + 1 < w52.heap.size := blt cB052
 have lcW052 : gAW < w52.heap.size := blt cW052
 have lcWV052 : gBW < w52.heap.size := blt cWV052
 have lcG052 : w16.heap.size < w52.heap.size := blt cG052
 have lcGV052 : w16.heap.size + 1 < w52.heap.size := blt cGV052
 have lcH052 : gAH < w52.heap.size := blt cH052
 have lcHV052 : gBH < w52.heap.size := blt cHV052
 go_wp2_with fail
 refine name_call fun w53 hw53 => ?_
 have b53 : Below w.heap.size w w53 := by rw [hw53]; (repeat (with_reducible first | exact bR _ _ | assumption | refine bD ?_ | refine bN ?_ _ | refine bA ?_ _ | refine bS ?_ _))
 have z53 : w52.heap.size + 0 ≤ w53.heap.size := by rw [hw53]; simp
 have e53 : Below w52.heap.size w52 w53 := by rw [hw53]; (repeat (with_reducible first | exact bR _ _ | assumption | refine bD ?_ | refine bN ?_ _ | refine bA ?_ _ | refine bS ?_ _))
 have cS053 := ck e53 cS052
 have cS153 := ck e53 cS152
 have cS253 := ck e53 cS252
 have cS353 := ck e53 cS352
 have cA053 := ck e53 cA052
 have cB053 := ck e53 cB052
 have cW053 := ck e53 cW052
 have cW153 := ck e53 cW152
 have cW253 := ck e53 cW252
 have cW353 := ck e53 cW352
 have cWV053 := ck e53 cWV052
 have cG053 := ck e53 cG052
 have cG153 := ck e53 cG152
 have cG253 := ck e53 cG252
 have cG353 := ck e53 cG352
 have cGV053 := ck e53 cGV052
 have cH053 := ck e53 cH052
 have cH153 := ck e53 cH152
 have cH253 := ck e53 cH252
 have cH353 := ck e53 cH352
 have cHV053 := ck e53 cHV052
 have tS53 := tS52.keep e53 (by omega)
 have tA53 := tA52.keep e53 (by omega)
 have tB53 := tB52.keep e53 (by omega)
 have tW53 := tW52.keep e53 (by omega)
 have tWV53 := tWV52.keep e53 (by omega)
 have tG53 := tG52.keep e53 (by omega)
 have tH53 := tH52.keep e53 (by omega)
 have tHV53 := tHV52.keep e53 (by omega)
 clear hw53 lcS052 lcA052 lcB052 lcW052 lcWV052 lcG052 lcGV052 lcH052 lcHV052 cS052 cS152 cS252 cS352 cA052 cB052 cW052 cW152 cW252 cW352 cWV052 cG052 cG152 cG252 cG352 cGV052 cH052 cH152 cH252 cH352 cHV052 tS52 tA52 tB52 tW52 tWV52 tG52 tH52 tHV52
 refine (heldLin_any _ _ _ _ v.length (1 + totS r) _ (tG53.snd) (by omega) (by omega) (by omega)).mono ?_; rintro e w54 ⟨rfl, f54⟩
 have b54 := b53.trans (f54.mono (by omega))
 have z54 := f54.size
 have cS054 := ck f54 cS053
 have cS154 := ck f54 cS153
 have cS254 := ck f54 cS253
 have cS354 := ck f54 cS353
 have cA054 := ck f54 cA053
 have cB054 := ck f54 cB053
 have cW054 := ck f54 cW053
 have cW154 := ck f54 cW153
 have cW254 := ck f54 cW253
 have cW354 := ck f54 cW353
 have cWV054 := ck f54 cWV053
 have cG054 := ck f54 cG053
 have cG154 := ck f54 cG153
 have cG254 := ck f54 cG253
 have cG354 := ck f54 cG353
 have cGV054 := ck f54 cGV053
 have cH054 := ck f54 cH053
 have cH154 := ck f54 cH153
 have cH254 := ck f54 cH253
 have cH354 := ck f54 cH353
 have cHV054 := ck f54 cHV053
 have tS54 := tS53.keep f54 (by omega)
 have tA54 := tA53.keep f54 (by omega)
 have tB54 := tB53.keep f54 (by omega)
 have tW54 := tW53.keep f54 (by omega)
 have tWV54 := tWV53.keep f54 (by omega)
 have tG54 := tG53.keep f54 (by omega)
 have tH54 := tH53.keep f54 (by omega)
 have tHV54 := tHV53.keep f54 (by omega)
 clear cS053 cS153 cS253 cS353 cA053 cB053 cW053 cW153 cW253 cW353 cWV053 cG053 cG153 cG253 cG353 cGV053 cH053 cH153 cH253 cH353 cHV053 tS53 tA53 tB53 tW53 tWV53 tG53 tH53 tHV53
 go_wp2_with fail
 go_ret
 exact ⟨rfl, b54⟩
end Go.Proofs.YtklcgclaeafoeaaGreat.L
