/- Exact laws of functions that add to a system (written by tools/lawadd.py): the program's function and its model return the same, write into no argument, and own what they return. -/
import Derived.Test.YtcenijdaacbgpaaGreatE5m
import Derived.Test.YtcenijdaacbgpaaGreatAddG
import Derived.Test.YtcenijdaacbgpaaGreatMAddG
import Derived.Test.YtcenijdaacbgpaaGreatMAddZ
import Derived.Test.YtcenijdaacbgpaaGreatSame5b
import Derived.Test.YtcenijdaacbgpaaGreatRgnB
import Derived.Test.YtcenijdaacbgpaaGreatRgn
import Derived.Test.YtcenijdaacbgpaaGreatB2
import Derived.Test.YtcenijdaacbgpaaGreatB3
import Derived.Deep.DeepCutAuto
namespace Go.Proofs.YtcenijdaacbgpaaGreat.L
open Go.RowKit Go.Proofs.YtcenijdaacbgpaaGreat.S
set_option linter.unusedVariables false
set_option linter.unusedSimpArgs false

theorem totKR (s : SysC) (x : List T) (hx : x.length ≤ 3000) : ∀ k, totS (bitsK s x k).1 ≤ totS s + k * 6040 := by
 intro k
 induction k with
 | zero => exact Nat.le_add_right _ _
 | succ k ih =>
  simp only [bitsK, boolS]
  rw [totS_con, totS_hint]
  have h1 := mrg_length 2147483646 (sVar (bitsK s x k).1) (constOf 1)
  have h2 := constOf_len 1
  have h3 : (sVar (bitsK s x k).1).length = 1 := rfl
  simp only [fH, fC, List.length_nil]
  omega
theorem addBits_answersR (s : SysC) (x : List T) (q : Int) (n : Nat) (hn : 1 ≤ q ∧ q ≤ 30 → q = (n : Int) ∧ n ≤ 30) (m : Bool) (hm : m = (decide (1 ≤ q ∧ q ≤ 30) && mayL s [x])) :
  (m && bOk (bitsB s ⟨[], [], 0⟩ x n)) = (m && sysOk (bitsS s x n)) ∧
  (if m = true then bSys s (bitsB s ⟨[], [], 0⟩ x n) else sys0) = (if m = true then (if sysOk (bitsS s x n) = true then bitsS s x n else s) else sys0) ∧
  (if (m && bOk (bitsB s ⟨[], [], 0⟩ x n)) = true then (bitsBK s ⟨[], [], 0⟩ x n).2 else []) = (if (m && sysOk (bitsS s x n)) = true then (bitsK s x n).2 else []) := by
 cases m
 ·simp
 ·have hm' := hm.symm
  rw [Bool.and_eq_true] at hm'
  obtain ⟨e1, e2⟩ := hm'
  obtain ⟨rfl, hn2⟩ := hn (of_decide_eq_true e1)
  obtain ⟨hs, hl⟩ := mayL_in e2
  obtain ⟨S, S2⟩ := (Sim.start hs).bits (x := x) (x' := x) (fun _ => ⟨rfl, hl x (by simp)⟩) n hn2
  obtain ⟨d1, d2, d3⟩ := S.done hs
  refine ⟨by rw [d1], ?_, ?_⟩
  ·rw [if_pos rfl, if_pos rfl]
   cases hk : sysOk (bitsS s x n)
   ·rw [d3 hk]; rfl
   ·rw [(d2 hk).1]; rfl
  ·rw [d1]
   cases hk : sysOk (bitsS s x n)
   ·rfl
   ·simp [(S2 (d2 hk).2).1]
theorem size_bitsR {s r : SysC} {x : List T} {q : Int} {n : Nat} {m k : Bool} (hn : 1 ≤ q ∧ q ≤ 30 → q = (n : Int) ∧ n ≤ 30) (hm : m = (decide (1 ≤ q ∧ q ≤ 30) && mayL s [x])) (hr : r = if m = true then (if k = true then bitsS s x n else s) else sys0) : totS r ≤ totS s + 200000 :=
 size_of2 hr fun e => by
  rw [e] at hm
  have hm' := hm.symm
  rw [Bool.and_eq_true] at hm'
  obtain ⟨e1, e2⟩ := hm'
  obtain ⟨-, hn2⟩ := hn (of_decide_eq_true e1)
  have h3 := may_len e2 (show x ∈ [x] by simp)
  have h4 := totKR s x h3 n
  have h5 : (packS (bitsK s x n).2).length ≤ 30 := Nat.le_trans (packS_len fun b h => by rw [bitsK_one s x n b h]; exact Nat.le_refl _) (by rw [bitsK_len]; exact hn2)
  have h6 := mrg_length 2147483646 (packS (bitsK s x n).2) x
  have h7 := constOf_len 1
  unfold bitsS eqS
  rw [totS_con]
  simp only [fC, List.length_nil]
  omega
theorem len_bitsR {s : SysC} {v : List (List T)} {x : List T} {q : Int} {n : Nat} {m k : Bool} (hn : 1 ≤ q ∧ q ≤ 30 → q = (n : Int) ∧ n ≤ 30) (hm : m = (decide (1 ≤ q ∧ q ≤ 30) && mayL s [x])) (hv : v = if (m && k) = true then (bitsK s x n).2 else []) : tot fL v ≤ 60 := by
 rw [hv]
 split
 ·next h =>
  rw [Bool.and_eq_true] at h
  have hm' := hm.symm.trans h.1
  rw [Bool.and_eq_true] at hm'
  obtain ⟨-, hn2⟩ := hn (of_decide_eq_true hm'.1)
  have : ∀ k, tot fL (bitsK s x k).2 ≤ 2 * k := fun k => by
   induction k with
   | zero => exact Nat.le_refl _
   | succ k ih =>
    simp only [bitsK]
    rw [tot_snoc]
    have : fL (sVar (bitsK s x k).1) = 2 := rfl
    have h2 : fL (sVar (sHint (bitsK s x k).1 ⟨1, x, [], k⟩)) = 2 := rfl
    omega
  have := this n
  omega
 ·exact Nat.zero_le _
set_option maxRecDepth 100000 in
set_option maxHeartbeats 12800000 in
theorem law_FnExactAddRange (viS voS vhS vcS : Value) (sS : SysC) (vA : Value) (tsA : List T) (nN : Int) (w : World) (hS : SysR false 0 w.heap.size w viS voS vhS vcS sS) (hA : Terms false 0 w.heap.size w vA tsA) (lN : -9223372036854775808 ≤ nN) (hN : nN ≤ 9223372036854775807) :
  Calls Tryz.prog 3 #[.agg #[viS, voS, vhS, vcS], .agg #[vA], .int .i64 nN] w fun e w' => e = .returned (.bool true) ∧ Below w.heap.size w w' := by
 obtain ⟨aoS, koS, ahS, khS, acS, kcS, rfl, rfl, rfl, rfl, loS, boS, lhS, bhS, lcS, bcS, fiS⟩ := id hS.shape
 obtain ⟨aA, kA, rfl, laA, baA⟩ := id hA.shape
 by_cases hlS : szS sS ≤ 1048576
 case' neg =>
  go_enter Tryz.func3, Tryz.ntmps3
  go_wp2_with fail
  refine name_call fun w1 hw1 => ?_
  have b1 : Below w.heap.size w w1 := by rw [hw1]; (repeat (with_reducible first | exact bR _ _ | assumption | refine bD ?_ | refine bN ?_ _ | refine bA ?_ _ | refine bS ?_ _))
  have z1 : w.heap.size + 2 ≤ w1.heap.size := by rw [hw1]; simp
  have e1 : Below w.heap.size w w1 := by rw [hw1]; (repeat (with_reducible first | exact bR _ _ | assumption | refine bD ?_ | refine bN ?_ _ | refine bA ?_ _ | refine bS ?_ _))
  have cS01 : w1.cell? ⟨w.heap.size, 0, none⟩ = some (.int .i64 sS.ins) := by rw [hw1]; first | (simp; done) | go_simp
  have cS11 : w1.cell? ⟨w.heap.size, 1, none⟩ = some (.slice aoS sS.outs.length koS) := by rw [hw1]; first | (simp; done) | go_simp
  have cS21 : w1.cell? ⟨w.heap.size, 2, none⟩ = some (.slice ahS sS.hints.length khS) := by rw [hw1]; first | (simp; done) | go_simp
  have cS31 : w1.cell? ⟨w.heap.size, 3, none⟩ = some (.slice acS sS.cons.length kcS) := by rw [hw1]; first | (simp; done) | go_simp
  have cA01 : w1.cell? ⟨w.heap.size + 1, 0, none⟩ = some (.slice aA tsA.length kA) := by rw [hw1]; first | (simp; done) | go_simp
  have tS1 := hS.keep e1 (by omega)
  have tA1 := hA.keep e1 (by omega)
  clear hw1
  refine (szSys_no false 0 w.heap.size _ _ _ _ sS 1048576 _ tS1 (by omega) (by omega) (by omega) (by omega)).mono ?_; rintro e w2 ⟨rfl, f2⟩
  have b2 := b1.trans (f2.mono (by omega))
  have z2 := f2.size
  have cS02 := ck f2 cS01
  have cS12 := ck f2 cS11
  have cS22 := ck f2 cS21
  have cS32 := ck f2 cS31
  have cA02 := ck f2 cA01
  have tS2 := tS1.keep f2 (by omega)
  have tA2 := tA1.keep f2 (by omega)
  clear cS01 cS11 cS21 cS31 cA01 tS1 tA1
  go_wp2_with fail
  go_ret
  exact ⟨rfl, b2⟩
 have hS0 : szLs sS.outs + szHs sS.hints + szCs sS.cons = szS sS := rfl
 have q0 : 0 ≤ (1048576 : Int) - szLs sS.outs - szHs sS.hints - szCs sS.cons := by omega
 by_cases hlA : szS sS + tsA.length ≤ 1048576
 case' neg =>
  go_enter Tryz.func3, Tryz.ntmps3
  go_wp2_with fail
  refine name_call fun w1 hw1 => ?_
  have b1 : Below w.heap.size w w1 := by rw [hw1]; (repeat (with_reducible first | exact bR _ _ | assumption | refine bD ?_ | refine bN ?_ _ | refine bA ?_ _ | refine bS ?_ _))
  have z1 : w.heap.size + 2 ≤ w1.heap.size := by rw [hw1]; simp
  have e1 : Below w.heap.size w w1 := by rw [hw1]; (repeat (with_reducible first | exact bR _ _ | assumption | refine bD ?_ | refine bN ?_ _ | refine bA ?_ _ | refine bS ?_ _))
  have cS01 : w1.cell? ⟨w.heap.size, 0, none⟩ = some (.int .i64 sS.ins) := by rw [hw1]; first | (simp; done) | go_simp
  have cS11 : w1.cell? ⟨w.heap.size, 1, none⟩ = some (.slice aoS sS.outs.length koS) := by rw [hw1]; first | (simp; done) | go_simp
  have cS21 : w1.cell? ⟨w.heap.size, 2, none⟩ = some (.slice ahS sS.hints.length khS) := by rw [hw1]; first | (simp; done) | go_simp
  have cS31 : w1.cell? ⟨w.heap.size, 3, none⟩ = some (.slice acS sS.cons.length kcS) := by rw [hw1]; first | (simp; done) | go_simp
  have cA01 : w1.cell? ⟨w.heap.size + 1, 0, none⟩ = some (.slice aA tsA.length kA) := by rw [hw1]; first | (simp; done) | go_simp
  have tS1 := hS.keep e1 (by omega)
  have tA1 := hA.keep e1 (by omega)
  clear hw1
  have hS0 : szLs sS.outs + szHs sS.hints + szCs sS.cons = szS sS := rfl
  refine (szSys_ok false 0 w.heap.size _ _ _ _ sS 1048576 _ tS1 (by omega) (by omega) (by omega) (by omega)).mono ?_; rintro e w2 ⟨rfl, f2⟩
  have b2 := b1.trans (f2.mono (by omega))
  have z2 := f2.size
  have cS02 := ck f2 cS01
  have cS12 := ck f2 cS11
  have cS22 := ck f2 cS21
  have cS32 := ck f2 cS31
  have cA02 := ck f2 cA01
  have tS2 := tS1.keep f2 (by omega)
  have tA2 := tA1.keep f2 (by omega)
  clear cS01 cS11 cS21 cS31 cA01 tS1 tA1
  have lcS02 : w.heap.size < w2.heap.size := blt cS02
  have lcA02 : w.heap.size + 1 < w2.heap.size := blt cA02
  go_wp2_with fail
  refine name_call fun w3 hw3 => ?_
  have b3 : Below w.heap.size w w3 := by rw [hw3]; (repeat (with_reducible first | exact bR _ _ | assumption | refine bD ?_ | refine bN ?_ _ | refine bA ?_ _ | refine bS ?_ _))
  have z3 : w2.heap.size + 0 ≤ w3.heap.size := by rw [hw3]; simp
  have e3 : Below w2.heap.size w2 w3 := by rw [hw3]; (repeat (with_reducible first | exact bR _ _ | assumption | refine bD ?_ | refine bN ?_ _ | refine bA ?_ _ | refine bS ?_ _))
  have cS03 := ck e3 cS02
  have cS13 := ck e3 cS12
  have cS23 := ck e3 cS22
  have cS33 := ck e3 cS32
  have cA03 := ck e3 cA02
  have tS3 := tS2.keep e3 (by omega)
  have tA3 := tA2.keep e3 (by omega)
  clear hw3 lcS02 lcA02 cS02 cS12 cS22 cS32 cA02 tS2 tA2
  refine (szLin_no false 0 w.heap.size _ tsA _ _ tA3 (by omega) (by omega) (by omega) (by omega)).mono ?_; rintro e w4 ⟨rfl, f4⟩
  have b4 := b3.trans (f4.mono (by omega))
  have z4 := f4.size
  have cS04 := ck f4 cS03
  have cS14 := ck f4 cS13
  have cS24 := ck f4 cS23
  have cS34 := ck f4 cS33
  have cA04 := ck f4 cA03
  have tS4 := tS3.keep f4 (by omega)
  have tA4 := tA3.keep f4 (by omega)
  clear cS03 cS13 cS23 cS33 cA03 tS3 tA3
  go_wp2_with fail
  go_ret
  exact ⟨rfl, b4⟩
 have q1 : 0 ≤ (1048576 : Int) - szLs sS.outs - szHs sS.hints - szCs sS.cons - tsA.length := by omega
 have sm : Small sS := small_of (by omega)
 have hT : totS sS ≤ 2 * szS sS := totS_le sS
 obtain ⟨n, Hn⟩ : ∃ n : Nat, Hid (1 ≤ nN ∧ nN ≤ 30 → nN = (n : Int) ∧ n ≤ 30) := ⟨nN.toNat, Lib.hid (by omega)⟩
 obtain ⟨m, Hm⟩ : ∃ m, Hid (m = (decide (1 ≤ nN ∧ nN ≤ 30) && mayL sS [tsA])) := ⟨_, Lib.hid rfl⟩
 obtain ⟨ok, Ho1⟩ : ∃ ok, Hid (ok = (m && sysOk (bitsS sS tsA n))) := ⟨_, Lib.hid rfl⟩
 obtain ⟨r, Hr1⟩ : ∃ r, Hid (r = if m = true then (if sysOk (bitsS sS tsA n) = true then bitsS sS tsA n else sS) else sys0) := ⟨_, Lib.hid rfl⟩
 obtain ⟨A1, A2, A3⟩ := addBits_answersR sS tsA nN n Hn.out m Hm.out
 have Ho : Hid (ok = (m && bOk (bitsB sS ⟨[], [], 0⟩ tsA n))) := Lib.hid (Ho1.out.trans A1.symm)
 have Hr : Hid (r = if m = true then bSys sS (bitsB sS ⟨[], [], 0⟩ tsA n) else sys0) := Lib.hid (Hr1.out.trans A2.symm)
 have hr1 := size_bitsR Hn.out Hm.out Hr1.out
 clear A1 A2 A3
 go_enter Tryz.func3, Tryz.ntmps3
 go_wp2_with fail
 refine name_call fun w1 hw1 => ?_
 have b1 : Below w.heap.size w w1 := by rw [hw1]; (repeat (with_reducible first | exact bR _ _ | assumption | refine bD ?_ | refine bN ?_ _ | refine bA ?_ _ | refine bS ?_ _))
 have z1 : w.heap.size + 2 ≤ w1.heap.size := by rw [hw1]; simp
 have e1 : Below w.heap.size w w1 := by rw [hw1]; (repeat (with_reducible first | exact bR _ _ | assumption | refine bD ?_ | refine bN ?_ _ | refine bA ?_ _ | refine bS ?_ _))
 have cS01 : w1.cell? ⟨w.heap.size, 0, none⟩ = some (.int .i64 sS.ins) := by rw [hw1]; first | (simp; done) | go_simp
 have cS11 : w1.cell? ⟨w.heap.size, 1, none⟩ = some (.slice aoS sS.outs.length koS) := by rw [hw1]; first | (simp; done) | go_simp
 have cS21 : w1.cell? ⟨w.heap.size, 2, none⟩ = some (.slice ahS sS.hints.length khS) := by rw [hw1]; first | (simp; done) | go_simp
 have cS31 : w1.cell? ⟨w.heap.size, 3, none⟩ = some (.slice acS sS.cons.length kcS) := by rw [hw1]; first | (simp; done) | go_simp
 have cA01 : w1.cell? ⟨w.heap.size + 1, 0, none⟩ = some (.slice aA tsA.length kA) := by rw [hw1]; first | (simp; done) | go_simp
 have tS1 := hS.keep e1 (by omega)
 have tA1 := hA.keep e1 (by omega)
 clear hw1
 refine (szSys_ok false 0 w.heap.size _ _ _ _ sS 1048576 _ tS1 (by omega) (by omega) (by omega) (by omega)).mono ?_; rintro e w2 ⟨rfl, f2⟩
 have b2 := b1.trans (f2.mono (by omega))
 have z2 := f2.size
 have cS02 := ck f2 cS01
 have cS12 := ck f2 cS11
 have cS22 := ck f2 cS21
 have cS32 := ck f2 cS31
 have cA02 := ck f2 cA01
 have tS2 := tS1.keep f2 (by omega)
 have tA2 := tA1.keep f2 (by omega)
 clear cS01 cS11 cS21 cS31 cA01 tS1 tA1
 have lcS02 : w.heap.size < w2.heap.size := blt cS02
 have lcA02 : w.heap.size + 1 < w2.heap.size := blt cA02
 go_wp2_with fail
 refine name_call fun w3 hw3 => ?_
 have b3 : Below w.heap.size w w3 := by rw [hw3]; (repeat (with_reducible first | exact bR _ _ | assumption | refine bD ?_ | refine bN ?_ _ | refine bA ?_ _ | refine bS ?_ _))
 have z3 : w2.heap.size + 0 ≤ w3.heap.size := by rw [hw3]; simp
 have e3 : Below w2.heap.size w2 w3 := by rw [hw3]; (repeat (with_reducible first | exact bR _ _ | assumption | refine bD ?_ | refine bN ?_ _ | refine bA ?_ _ | refine bS ?_ _))
 have cS03 := ck e3 cS02
 have cS13 := ck e3 cS12
 have cS23 := ck e3 cS22
 have cS33 := ck e3 cS32
 have cA03 := ck e3 cA02
 have tS3 := tS2.keep e3 (by omega)
 have tA3 := tA2.keep e3 (by omega)
 clear hw3 lcS02 lcA02 cS02 cS12 cS22 cS32 cA02 tS2 tA2
 refine (szLin_ok false 0 w.heap.size _ tsA _ _ tA3 (by omega) (by omega) (by omega)).mono ?_; rintro e w4 ⟨rfl, f4⟩
 have b4 := b3.trans (f4.mono (by omega))
 have z4 := f4.size
 have cS04 := ck f4 cS03
 have cS14 := ck f4 cS13
 have cS24 := ck f4 cS23
 have cS34 := ck f4 cS33
 have cA04 := ck f4 cA03
 have tS4 := tS3.keep f4 (by omega)
 have tA4 := tA3.keep f4 (by omega)
 clear cS03 cS13 cS23 cS33 cA03 tS3 tA3
 have lcS04 : w.heap.size < w4.heap.size := blt cS04
 have lcA04 : w.heap.size + 1 < w4.heap.size := blt cA04
 go_wp2_with fail
 refine name_wp fun w5 hw5 => ?_
 have b5 : Below w.heap.size w w5 := by rw [hw5]; (repeat (with_reducible first | exact bR _ _ | assumption | refine bD ?_ | refine bN ?_ _ | refine bA ?_ _ | refine bS ?_ _))
 have z5 : w4.heap.size + 0 ≤ w5.heap.size := by rw [hw5]; simp
 have e5 : Below w4.heap.size w4 w5 := by rw [hw5]; (repeat (with_reducible first | exact bR _ _ | assumption | refine bD ?_ | refine bN ?_ _ | refine bA ?_ _ | refine bS ?_ _))
 have cS05 := ck e5 cS04
 have cS15 := ck e5 cS14
 have cS25 := ck e5 cS24
 have cS35 := ck e5 cS34
 have cA05 := ck e5 cA04
 have tS5 := tS4.keep e5 (by omega)
 have tA5 := tA4.keep e5 (by omega)
 clear hw5 lcS04 lcA04 cS04 cS14 cS24 cS34 cA04 tS4 tA4
 have d0W : Below w5.heap.size w5 w5.drew := (Below.refl _ _).drew
 have zrW : w5.drew.heap.size = w5.heap.size := rfl
 have US := tS5.keep d0W (by omega)
 have UA := tA5.keep d0W (by omega)
 have GS0 : w5.drew.cell? ⟨w.heap.size, 0, none⟩ = some (.int .i64 sS.ins) := cell_keep d0W cS05
 have GS1 : w5.drew.cell? ⟨w.heap.size, 1, none⟩ = some (.slice aoS sS.outs.length koS) := cell_keep d0W cS15
 have GS2 : w5.drew.cell? ⟨w.heap.size, 2, none⟩ = some (.slice ahS sS.hints.length khS) := cell_keep d0W cS25
 have GS3 : w5.drew.cell? ⟨w.heap.size, 3, none⟩ = some (.slice acS sS.cons.length kcS) := cell_keep d0W cS35
 have GA0 : w5.drew.cell? ⟨w.heap.size + 1, 0, none⟩ = some (.slice aA tsA.length kA) := cell_keep d0W cA05
 go_cut [8, 9] (fun s8 s9 wx => CutSB w5.drew r ok s8 s9 wx)
 case first =>
  rename_i J K' hJ hK
  refine wp_region_drawn [8, 9, 29, 30, 31, 32, 33, 34, 35, 36, 37] (fun d u wx => Below w5.drew.heap.size w5.drew wx ∧ (d 0 = true → u 30 = .agg #[.int .i64 sS.ins, .slice aoS sS.outs.length koS, .slice ahS sS.hints.length khS, .slice acS sS.cons.length kcS]) ∧ ArgSys (d 1) (d 5) sS (u 31) wx ∧ (d 2 = true → u 32 = .agg #[.slice aA tsA.length kA]) ∧ ArgLin (d 3) (d 5) tsA (u 33) wx ∧ (d 4 = true → u 34 = .int .i64 nN) ∧ ResSB w5.drew r ok (d 5) (d 6) (d 7) (d 8) (d 9) (d 10) (d 11) (u 35) (u 29) (u 36) (u 37) (u 8) (u 9) wx) (by kernel_rfl) (by kernel_rfl) (by kernel_rfl) ?_ ?_ ?_
  ·intro u; exact ⟨Below.refl _ _, vac rfl, ArgSys.none, vac rfl, ArgLin.none, vac rfl, ResSB.start⟩
  ·refine ⟨?_, ?_, ?_, ?_, ?_, ?_, ?_, ?_, ?_, ?_, ?_, ?_, trivial⟩
   ·intro d u wx h0 hd hF
    obtain ⟨hb, f0, f1, f2, f3, f4, fR⟩ := hF
    have sz := hb.size
    refine Wpv.env fun ρ hin hout hcon hfun => ?_
    have E3 : ρ (.tmp 3) = .pointer (some ⟨w.heap.size, 0, none⟩) := (hout 3 (by kernel_rfl)).trans (by kernel_rfl)
    clear hin hout
    have c0 := cell_keep hb GS0
    have c1 := cell_keep hb GS1
    have c2 := cell_keep hb GS2
    have c3 := cell_keep hb GS3
    refine Wpv.value (v := .agg #[.int .i64 sS.ins, .slice aoS sS.outs.length koS, .slice ahS sS.hints.length khS, .slice acS sS.cons.length kcS]) (w' := wx) ?_ ⟨hb, fun _ => rfl, f1, f2, f3, f4, fR⟩
    clear f0 f1 f2 f3 f4 fR
    simp only [execOp]; rw [E3]; go_simp
   ·intro d u wx h0 hd hF
    obtain ⟨hb, f0, f1, f2, f3, f4, fR⟩ := hF
    have sz := hb.size
    refine Wpv.env fun ρ hin hout hcon hfun => ?_
    have E30 := hin 30 (by kernel_rfl)
    clear hin hout
    have e := E30.trans (f0 (hd.get (j := 0) (by kernel_rfl)))
    have t := US.keep hb (by omega)
    refine Wpv.enter (f := 7) (args := #[.agg #[.int .i64 sS.ins, .slice aoS sS.outs.length koS, .slice ahS sS.hints.length khS, .slice acS sS.cons.length kcS]]) (w' := wx) (by clear f0 f1 f2 f3 f4 fR t E30; go_simp) (toSys_any _ _ _ _ _ _ _ sS wx t (by omega) (by omega)) ?_
    rintro e' w' ⟨a1, a2, a3, rfl, j1, t1⟩
    exact ⟨_, rfl, ⟨hb.trans (j1.mono sz), f0, ArgSys.new t1, f2, f3.keep j1, f4, fR.keep j1⟩⟩
   ·intro d u wx h0 hd hF
    obtain ⟨hb, f0, f1, f2, f3, f4, fR⟩ := hF
    have sz := hb.size
    refine Wpv.env fun ρ hin hout hcon hfun => ?_
    have E4 : ρ (.tmp 4) = .pointer (some ⟨w.heap.size + 1, 0, none⟩) := (hout 4 (by kernel_rfl)).trans (by kernel_rfl)
    clear hin hout
    have c0 := cell_keep hb GA0
    refine Wpv.value (v := .agg #[.slice aA tsA.length kA]) (w' := wx) ?_ ⟨hb, f0, f1, fun _ => rfl, f3, f4, fR⟩
    clear f0 f1 f2 f3 f4 fR
    simp only [execOp]; rw [E4]; go_simp
   ·intro d u wx h0 hd hF
    obtain ⟨hb, f0, f1, f2, f3, f4, fR⟩ := hF
    have sz := hb.size
    refine Wpv.env fun ρ hin hout hcon hfun => ?_
    have E32 := hin 32 (by kernel_rfl)
    clear hin hout
    have e := E32.trans (f2 (hd.get (j := 2) (by kernel_rfl)))
    have t := UA.keep hb (by omega)
    refine Wpv.enter (f := 8) (args := #[.agg #[.slice aA tsA.length kA]]) (w' := wx) (by clear f0 f1 f2 f3 f4 fR t E32; go_simp) (toLin_any _ _ _ _ tsA wx t (by omega) (by omega)) ?_
    rintro e' w' ⟨a1, rfl, j1, t1⟩
    exact ⟨_, rfl, ⟨hb.trans (j1.mono sz), f0, f1.keep j1, f2, ArgLin.new t1, f4, fR.keep j1⟩⟩
   ·intro d u wx h0 hd hF
    obtain ⟨hb, f0, f1, f2, f3, f4, fR⟩ := hF
    have sz := hb.size
    refine Wpv.env fun ρ hin hout hcon hfun => ?_
    have E2 : ρ (.tmp 2) = .int .i64 nN := (hout 2 (by kernel_rfl)).trans (by kernel_rfl)
    clear hin hout
    exact Wpv.value (v := .int .i64 nN) (by simp only [execOp]; rw [E2]; rfl) ⟨hb, f0, f1, f2, f3, fun _ => rfl, fR⟩
   ·intro d u wx h0 hd hF
    obtain ⟨hb, f0, f1, f2, f3, f4, fR⟩ := hF
    have sz := hb.size
    refine Wpv.env fun ρ hin hout hcon hfun => ?_
    have E31 := hin 31 (by kernel_rfl)
    have E33 := hin 33 (by kernel_rfl)
    have E34 := hin 34 (by kernel_rfl)
    clear hin hout
    obtain ⟨x1S, x2S, x3S, e0S, tS⟩ := f1 (hd.get (j := 1) (by kernel_rfl)) h0
    have eS := E31.trans e0S
    obtain ⟨x1A, e0A, tA⟩ := f3 (hd.get (j := 3) (by kernel_rfl)) h0
    have eA := E33.trans e0A
    have eN := E34.trans (f4 (hd.get (j := 4) (by kernel_rfl)))
    rw [h0] at fR
    refine Wpv.enter (f := 6) (args := #[.agg #[.int .i64 sS.ins, x1S, x2S, x3S], .agg #[x1A], .int .i64 nN]) (w' := wx) (by clear E31 E33 E34 tS tA e0S e0A f0 f1 f2 f3 f4 fR; go_simp) (addRange_spec _ _ _ _ _ _ _ sS _ _ _ _ tsA nN _ tS (Nat.le_refl _) sm tA (Nat.le_refl _) (by omega) _ (Lib.hid rfl) n Hn.out m Hm.out ok r Ho1 Hr1) ?_
    intro e' w' hq
    obtain ⟨uu, hu, j1, hr⟩ := ResSB.main fR hb hq
    exact ⟨uu, hu, ⟨hb.trans (j1.mono sz), f0, ArgSys.past, f2, ArgLin.past, f4, hr⟩⟩
   ·intro d u wx h0 hd hF
    obtain ⟨hb, f0, f1, f2, f3, f4, fR⟩ := hF
    have sz := hb.size
    refine Wpv.env fun ρ hin hout hcon hfun => ?_
    have E35 := hin 35 (by kernel_rfl)
    clear hin hout
    exact Wpv.value (v := u 35) (by simp only [execOp]; rw [E35]; rfl) ⟨hb, f0, f1, f2, f3, f4, (ResSB.moveD (hd.get (j := 5) (by kernel_rfl)) fR)⟩
   ·intro d u wx h0 hd hF
    obtain ⟨hb, f0, f1, f2, f3, f4, fR⟩ := hF
    have sz := hb.size
    refine Wpv.env fun ρ hin hout hcon hfun => ?_
    have E29 := hin 29 (by kernel_rfl)
    clear hin hout
    have hm : d 6 = true := hd.get (j := 6) (by kernel_rfl)
    obtain ⟨x, b, e⟩ := ResSB.tupD hm fR
    have e1 := E29.trans e
    refine Wpv.value (v := x) (w' := wx) (by clear e E29 f0 f1 f2 f3 f4 fR; go_simp) ⟨hb, f0, f1, f2, f3, f4, (ResSB.ex0D hm e fR)⟩
   ·intro d u wx h0 hd hF
    obtain ⟨hb, f0, f1, f2, f3, f4, fR⟩ := hF
    have sz := hb.size
    refine Wpv.env fun ρ hin hout hcon hfun => ?_
    have E29 := hin 29 (by kernel_rfl)
    clear hin hout
    have hm : d 6 = true := hd.get (j := 6) (by kernel_rfl)
    obtain ⟨x, b, e⟩ := ResSB.tupD hm fR
    have e1 := E29.trans e
    refine Wpv.value (v := b) (w' := wx) (by clear e E29 f0 f1 f2 f3 f4 fR; go_simp) ⟨hb, f0, f1, f2, f3, f4, (ResSB.ex2D hm e fR)⟩
   ·intro d u wx h0 hd hF
    obtain ⟨hb, f0, f1, f2, f3, f4, fR⟩ := hF
    have sz := hb.size
    refine Wpv.env fun ρ hin hout hcon hfun => ?_
    clear hin hout
    rw [h0] at fR
    have j1 : Below wx.heap.size wx (wx.alloc (.cells #[.int .i64 0, .slice none 0 0, .slice none 0 0, .slice none 0 0] 36)) := balloc (Nat.le_refl _) (Below.refl _ _) _
    refine Wpv.value (v := .pointer (some ⟨wx.heap.size, 0, none⟩)) (w' := wx.alloc (.cells #[.int .i64 0, .slice none 0 0, .slice none 0 0, .slice none 0 0] 36)) (by clear f0 f1 f2 f3 f4 fR; go_simp) ⟨hb.trans (j1.mono sz), f0, f1.keep j1, f2, f3.keep j1, f4, fR.boxA hb⟩
   ·intro d u wx h0 hd hF
    obtain ⟨hb, f0, f1, f2, f3, f4, fR⟩ := hF
    have sz := hb.size
    refine Wpv.env fun ρ hin hout hcon hfun => ?_
    have E8 := hin 8 (by kernel_rfl)
    have E36 := hin 36 (by kernel_rfl)
    clear hin hout
    have m : d 5 = true := (ResSB.upD (Or.inl (hd.get (j := 7) (by kernel_rfl))) fR)
    obtain ⟨gg, n0, a1, n1, k1, a2, n2, k2, a3, n3, k3, z0, z1, z2, z3, e1, e2, fr, bx⟩ := ResSB.preAD (hd.get (j := 7) (by kernel_rfl)) (hd.get (j := 9) (by kernel_rfl)) fR
    obtain ⟨c0, c1, c2, c3⟩ := id bx
    obtain ⟨r0, r1, r2, r3⟩ := id fr
    obtain ⟨lg, fR'⟩ := ResSB.setAD (hd.get (j := 7) (by kernel_rfl)) (hd.get (j := 9) (by kernel_rfl)) e1 e2 fR
    have y1 := E8.trans e1
    have y2 := E36.trans e2
    refine Wpv.skip (w' := set4 wx gg (.int .i64 n0) (.slice a1 n1 k1) (.slice a2 n2 k2) (.slice a3 n3 k3)) (by unfold set4; clear fR' e1 e2 E8 E36 bx fr f0 f1 f2 f3 f4 fR; go_simp) ?_
    exact ⟨set4_below hb lg _ _ _ _, f0, ArgSys.pastD m, f2, ArgLin.pastD m, f4, fR'⟩
   ·intro d u wx h0 hd hF
    obtain ⟨hb, f0, f1, f2, f3, f4, fR⟩ := hF
    have sz := hb.size
    refine Wpv.env fun ρ hin hout hcon hfun => ?_
    have E37 := hin 37 (by kernel_rfl)
    clear hin hout
    exact Wpv.value (v := u 37) (by simp only [execOp]; rw [E37]; rfl) ⟨hb, f0, f1, f2, f3, f4, (ResSB.finD (hd.get (j := 8) (by kernel_rfl)) fR)⟩
  ·intro d u wx hall hF
   obtain ⟨hb, f0, f1, f2, f3, f4, fR⟩ := hF
   have fC := ResSB.cutD fR hb (hall 5 (by decide)) (hall 9 (by decide)) (hall 10 (by decide)) (hall 11 (by decide))
   clear f0 f1 f2 f3 f4 fR
   refine hK _ _ (Met.intro (hJ _ _ ?_))
   simp only [setF, List.foldl_cons, List.foldl_nil, Act.put, List.setIfInBounds_toArray, List.set_cons_zero, List.set_cons_succ]
   repeat apply Exists.intro
   exact ⟨fC, rfl⟩
 obtain ⟨gAW, ui, uo, uh, uc, rfl, rfl, hgAW, ⟨b0, b1, b2, b3⟩, tW, bW⟩ := hcut
 obtain ⟨aoW, koW, ahW, khW, acW, kcW, rfl, rfl, rfl, rfl, loW, boW, lhW, bhW, lcW, bcW, fiW⟩ := id tW.shape
 obtain ⟨w6, hw6⟩ : ∃ x, x = wc := ⟨_, rfl⟩
 subst hw6
 have f6 : Below w5.heap.size w5 w6 := d0W.trans bW
 have b6 := b5.trans (f6.mono (by omega))
 have z6 := f6.size
 have cS06 := ck f6 cS05
 have cS16 := ck f6 cS15
 have cS26 := ck f6 cS25
 have cS36 := ck f6 cS35
 have cA06 := ck f6 cA05
 have tS6 := tS5.keep f6 (by omega)
 have tA6 := tA5.keep f6 (by omega)
 clear cS05 cS15 cS25 cS35 cA05 tS5 tA5 US UA GS0 GS1 GS2 GS3 GA0
 have b0W := b0; clear b0
 have b1W := b1; clear b1
 have b2W := b2; clear b2
 have b3W := b3; clear b3
 have lgAW : gAW < w6.heap.size := World.block_lt_of_cell? _ _ b0W
 have tW6 := tW; clear tW
 have lcS06 : w.heap.size < w6.heap.size := blt cS06
 have lcA06 : w.heap.size + 1 < w6.heap.size := blt cA06
 have lb0W : gAW < w6.heap.size := blt b0W
 go_wp2_with fail
 refine name_call fun w7 hw7 => ?_
 have b7 : Below w.heap.size w w7 := by rw [hw7]; (repeat (with_reducible first | exact bR _ _ | assumption | refine bD ?_ | refine bN ?_ _ | refine bA ?_ _ | refine bS ?_ _))
 have z7 : w6.heap.size + 0 ≤ w7.heap.size := by rw [hw7]; simp
 have e7 : Below w6.heap.size w6 w7 := by rw [hw7]; (repeat (with_reducible first | exact bR _ _ | assumption | refine bD ?_ | refine bN ?_ _ | refine bA ?_ _ | refine bS ?_ _))
 have cS07 := ck e7 cS06
 have cS17 := ck e7 cS16
 have cS27 := ck e7 cS26
 have cS37 := ck e7 cS36
 have cA07 := ck e7 cA06
 have cW07 := ck e7 b0W
 have cW17 := ck e7 b1W
 have cW27 := ck e7 b2W
 have cW37 := ck e7 b3W
 have tS7 := tS6.keep e7 (by omega)
 have tA7 := tA6.keep e7 (by omega)
 have tW7 := tW6.keep e7 (by omega)
 clear hw7 lcS06 lcA06 lb0W cS06 cS16 cS26 cS36 cA06 b0W b1W b2W b3W tS6 tA6 tW6
 refine (toSys_any _ _ _ _ _ _ _ sS _ tS7 (by omega) (by omega)).mono ?_; rintro e w8 ⟨uoxS, uhxS, ucxS, rfl, f8, q8⟩
 have b8 := b7.trans (f8.mono (by omega))
 have z8 := f8.size
 have cS08 := ck f8 cS07
 have cS18 := ck f8 cS17
 have cS28 := ck f8 cS27
 have cS38 := ck f8 cS37
 have cA08 := ck f8 cA07
 have cW08 := ck f8 cW07
 have cW18 := ck f8 cW17
 have cW28 := ck f8 cW27
 have cW38 := ck f8 cW37
 have tS8 := tS7.keep f8 (by omega)
 have tA8 := tA7.keep f8 (by omega)
 have tW8 := tW7.keep f8 (by omega)
 clear cS07 cS17 cS27 cS37 cA07 cW07 cW17 cW27 cW37 tS7 tA7 tW7
 obtain ⟨aoxS, koxS, ahxS, khxS, acxS, kcxS, -, rfl, rfl, rfl, loxS, boxS, lhxS, bhxS, lcxS, bcxS, -⟩ := id q8.shape
 have lcS08 : w.heap.size < w8.heap.size := blt cS08
 have lcA08 : w.heap.size + 1 < w8.heap.size := blt cA08
 have lcW08 : gAW < w8.heap.size := blt cW08
 go_wp2_with fail
 refine name_call fun w9 hw9 => ?_
 have b9 : Below w.heap.size w w9 := by rw [hw9]; (repeat (with_reducible first | exact bR _ _ | assumption | refine bD ?_ | refine bN ?_ _ | refine bA ?_ _ | refine bS ?_ _))
 have z9 : w8.heap.size + 1 ≤ w9.heap.size := by rw [hw9]; simp
 have e9 : Below w8.heap.size w8 w9 := by rw [hw9]; (repeat (with_reducible first | exact bR _ _ | assumption | refine bD ?_ | refine bN ?_ _ | refine bA ?_ _ | refine bS ?_ _))
 have cS09 := ck e9 cS08
 have cS19 := ck e9 cS18
 have cS29 := ck e9 cS28
 have cS39 := ck e9 cS38
 have cA09 := ck e9 cA08
 have cW09 := ck e9 cW08
 have cW19 := ck e9 cW18
 have cW29 := ck e9 cW28
 have cW39 := ck e9 cW38
 have cxS09 : w9.cell? ⟨w8.heap.size, 0, none⟩ = some (.int .i64 sS.ins) := by rw [hw9]; first | (simp; done) | go_simp
 have cxS19 : w9.cell? ⟨w8.heap.size, 1, none⟩ = some (.slice aoxS sS.outs.length koxS) := by rw [hw9]; first | (simp; done) | go_simp
 have cxS29 : w9.cell? ⟨w8.heap.size, 2, none⟩ = some (.slice ahxS sS.hints.length khxS) := by rw [hw9]; first | (simp; done) | go_simp
 have cxS39 : w9.cell? ⟨w8.heap.size, 3, none⟩ = some (.slice acxS sS.cons.length kcxS) := by rw [hw9]; first | (simp; done) | go_simp
 have tS9 := tS8.keep e9 (by omega)
 have tA9 := tA8.keep e9 (by omega)
 have tW9 := tW8.keep e9 (by omega)
 have txS9 := q8.keep e9 (by omega)
 clear hw9 lcS08 lcA08 lcW08 cS08 cS18 cS28 cS38 cA08 cW08 cW18 cW28 cW38 tS8 tA8 tW8
 refine (toLin_any _ _ _ _ tsA _ tA9 (by omega) (by omega)).mono ?_; rintro e w10 ⟨uxA, rfl, f10, q10⟩
 have b10 := b9.trans (f10.mono (by omega))
 have z10 := f10.size
 have cS010 := ck f10 cS09
 have cS110 := ck f10 cS19
 have cS210 := ck f10 cS29
 have cS310 := ck f10 cS39
 have cA010 := ck f10 cA09
 have cW010 := ck f10 cW09
 have cW110 := ck f10 cW19
 have cW210 := ck f10 cW29
 have cW310 := ck f10 cW39
 have cxS010 := ck f10 cxS09
 have cxS110 := ck f10 cxS19
 have cxS210 := ck f10 cxS29
 have cxS310 := ck f10 cxS39
 have tS10 := tS9.keep f10 (by omega)
 have tA10 := tA9.keep f10 (by omega)
 have tW10 := tW9.keep f10 (by omega)
 have txS10 := txS9.keep f10 (by omega)
 clear cS09 cS19 cS29 cS39 cA09 cW09 cW19 cW29 cW39 cxS09 cxS19 cxS29 cxS39 tS9 tA9 tW9 txS9
 obtain ⟨axA, kxA, rfl, laxA, baxA⟩ := id q10.shape
 have lcS010 : w.heap.size < w10.heap.size := blt cS010
 have lcA010 : w.heap.size + 1 < w10.heap.size := blt cA010
 have lcW010 : gAW < w10.heap.size := blt cW010
 have lcxS010 : w8.heap.size < w10.heap.size := blt cxS010
 go_wp2_with fail
 refine name_call fun w11 hw11 => ?_
 have b11 : Below w.heap.size w w11 := by rw [hw11]; (repeat (with_reducible first | exact bR _ _ | assumption | refine bD ?_ | refine bN ?_ _ | refine bA ?_ _ | refine bS ?_ _))
 have z11 : w10.heap.size + 1 ≤ w11.heap.size := by rw [hw11]; simp
 have e11 : Below w10.heap.size w10 w11 := by rw [hw11]; (repeat (with_reducible first | exact bR _ _ | assumption | refine bD ?_ | refine bN ?_ _ | refine bA ?_ _ | refine bS ?_ _))
 have cS011 := ck e11 cS010
 have cS111 := ck e11 cS110
 have cS211 := ck e11 cS210
 have cS311 := ck e11 cS310
 have cA011 := ck e11 cA010
 have cW011 := ck e11 cW010
 have cW111 := ck e11 cW110
 have cW211 := ck e11 cW210
 have cW311 := ck e11 cW310
 have cxS011 := ck e11 cxS010
 have cxS111 := ck e11 cxS110
 have cxS211 := ck e11 cxS210
 have cxS311 := ck e11 cxS310
 have cxA011 : w11.cell? ⟨w10.heap.size, 0, none⟩ = some (.slice axA tsA.length kxA) := by rw [hw11]; first | (simp; done) | go_simp
 have tS11 := tS10.keep e11 (by omega)
 have tA11 := tA10.keep e11 (by omega)
 have tW11 := tW10.keep e11 (by omega)
 have txS11 := txS10.keep e11 (by omega)
 have txA11 := q10.keep e11 (by omega)
 clear hw11 lcS010 lcA010 lcW010 lcxS010 cS010 cS110 cS210 cS310 cA010 cW010 cW110 cW210 cW310 cxS010 cxS110 cxS210 cxS310 tS10 tA10 tW10 txS10
 refine (addRange_impl _ _ _ _ _ _ _ sS _ _ _ _ tsA nN _ txS11 (by omega) sm txA11 (by omega) (by omega) n Hn.out m Hm.out ok r Ho Hr).mono ?_; intro e w12 hq
 obtain ⟨gi, go, gh, gc, rfl, f12, tG12⟩ := AnsSB.of_ext hq
 clear hq
 have b12 := b11.trans (f12.mono (by omega))
 have z12 := f12.size
 have cS012 := ck f12 cS011
 have cS112 := ck f12 cS111
 have cS212 := ck f12 cS211
 have cS312 := ck f12 cS311
 have cA012 := ck f12 cA011
 have cW012 := ck f12 cW011
 have cW112 := ck f12 cW111
 have cW212 := ck f12 cW211
 have cW312 := ck f12 cW311
 have cxS012 := ck f12 cxS011
 have cxS112 := ck f12 cxS111
 have cxS212 := ck f12 cxS211
 have cxS312 := ck f12 cxS311
 have cxA012 := ck f12 cxA011
 have tS12 := tS11.keep f12 (by omega)
 have tA12 := tA11.keep f12 (by omega)
 have tW12 := tW11.keep f12 (by omega)
 have txS12 := txS11.keep f12 (by omega)
 have txA12 := txA11.keep f12 (by omega)
 clear cS011 cS111 cS211 cS311 cA011 cW011 cW111 cW211 cW311 cxS011 cxS111 cxS211 cxS311 cxA011 tS11 tA11 tW11 txS11 txA11
 obtain ⟨aoG, koG, ahG, khG, acG, kcG, rfl, rfl, rfl, rfl, loG, boG, lhG, bhG, lcG, bcG, fiG⟩ := id tG12.sys.shape
 have lcS012 : w.heap.size < w12.heap.size := blt cS012
 have lcA012 : w.heap.size + 1 < w12.heap.size := blt cA012
 have lcW012 : gAW < w12.heap.size := blt cW012
 have lcxS012 : w8.heap.size < w12.heap.size := blt cxS012
 have lcxA012 : w10.heap.size < w12.heap.size := blt cxA012
 go_wp2_with fail
 refine name_call fun w13 hw13 => ?_
 have b13 : Below w.heap.size w w13 := by rw [hw13]; (repeat (with_reducible first | exact bR _ _ | assumption | refine bD ?_ | refine bN ?_ _ | refine bA ?_ _ | refine bS ?_ _))
 have z13 : w12.heap.size + 1 ≤ w13.heap.size := by rw [hw13]; simp
 have e13 : Below w12.heap.size w12 w13 := by rw [hw13]; (repeat (with_reducible first | exact bR _ _ | assumption | refine bD ?_ | refine bN ?_ _ | refine bA ?_ _ | refine bS ?_ _))
 have cS013 := ck e13 cS012
 have cS113 := ck e13 cS112
 have cS213 := ck e13 cS212
 have cS313 := ck e13 cS312
 have cA013 := ck e13 cA012
 have cW013 := ck e13 cW012
 have cW113 := ck e13 cW112
 have cW213 := ck e13 cW212
 have cW313 := ck e13 cW312
 have cxS013 := ck e13 cxS012
 have cxS113 := ck e13 cxS112
 have cxS213 := ck e13 cxS212
 have cxS313 := ck e13 cxS312
 have cxA013 := ck e13 cxA012
 have cG013 : w13.cell? ⟨w12.heap.size, 0, none⟩ = some (.int .i64 r.ins) := by rw [hw13]; first | (simp; done) | go_simp
 have cG113 : w13.cell? ⟨w12.heap.size, 1, none⟩ = some (.slice aoG r.outs.length koG) := by rw [hw13]; first | (simp; done) | go_simp
 have cG213 : w13.cell? ⟨w12.heap.size, 2, none⟩ = some (.slice ahG r.hints.length khG) := by rw [hw13]; first | (simp; done) | go_simp
 have cG313 : w13.cell? ⟨w12.heap.size, 3, none⟩ = some (.slice acG r.cons.length kcG) := by rw [hw13]; first | (simp; done) | go_simp
 have tS13 := tS12.keep e13 (by omega)
 have tA13 := tA12.keep e13 (by omega)
 have tW13 := tW12.keep e13 (by omega)
 have txS13 := txS12.keep e13 (by omega)
 have txA13 := txA12.keep e13 (by omega)
 have tG13 := tG12.keep e13 (by omega)
 clear hw13 lcS012 lcA012 lcW012 lcxS012 lcxA012 cS012 cS112 cS212 cS312 cA012 cW012 cW112 cW212 cW312 cxS012 cxS112 cxS212 cxS312 cxA012 tS12 tA12 tW12 txS12 txA12 tG12
 refine (eqSys_same _ _ _ _ _ _ _ _ _ _ _ _ _ _ r _ (tG13.sys) (tW13) (by omega) (by omega)).mono ?_; rintro e w14 ⟨rfl, f14⟩
 have b14 := b13.trans (f14.mono (by omega))
 have z14 := f14.size
 have cS014 := ck f14 cS013
 have cS114 := ck f14 cS113
 have cS214 := ck f14 cS213
 have cS314 := ck f14 cS313
 have cA014 := ck f14 cA013
 have cW014 := ck f14 cW013
 have cW114 := ck f14 cW113
 have cW214 := ck f14 cW213
 have cW314 := ck f14 cW313
 have cxS014 := ck f14 cxS013
 have cxS114 := ck f14 cxS113
 have cxS214 := ck f14 cxS213
 have cxS314 := ck f14 cxS313
 have cxA014 := ck f14 cxA013
 have cG014 := ck f14 cG013
 have cG114 := ck f14 cG113
 have cG214 := ck f14 cG213
 have cG314 := ck f14 cG313
 have tS14 := tS13.keep f14 (by omega)
 have tA14 := tA13.keep f14 (by omega)
 have tW14 := tW13.keep f14 (by omega)
 have txS14 := txS13.keep f14 (by omega)
 have txA14 := txA13.keep f14 (by omega)
 have tG14 := tG13.keep f14 (by omega)
 clear cS013 cS113 cS213 cS313 cA013 cW013 cW113 cW213 cW313 cxS013 cxS113 cxS213 cxS313 cxA013 cG013 cG113 cG213 cG313 tS13 tA13 tW13 txS13 txA13 tG13
 have lcS014 : w.heap.size < w14.heap.size := blt cS014
 have lcA014 : w.heap.size + 1 < w14.heap.size := blt cA014
 have lcW014 : gAW < w14.heap.size := blt cW014
 have lcxS014 : w8.heap.size < w14.heap.size := blt cxS014
 have lcxA014 : w10.heap.size < w14.heap.size := blt cxA014
 have lcG014 : w12.heap.size < w14.heap.size := blt cG014
 go_wp2_with fail
 refine name_wp fun w15 hw15 => ?_
 have b15 : Below w.heap.size w w15 := by rw [hw15]; (repeat (with_reducible first | exact bR _ _ | assumption | refine bD ?_ | refine bN ?_ _ | refine bA ?_ _ | refine bS ?_ _))
 have z15 : w14.heap.size + 0 ≤ w15.heap.size := by rw [hw15]; simp
 have e15 : Below w14.heap.size w14 w15 := by rw [hw15]; (repeat (with_reducible first | exact bR _ _ | assumption | refine bD ?_ | refine bN ?_ _ | refine bA ?_ _ | refine bS ?_ _))
 have cS015 := ck e15 cS014
 have cS115 := ck e15 cS114
 have cS215 := ck e15 cS214
 have cS315 := ck e15 cS314
 have cA015 := ck e15 cA014
 have cW015 := ck e15 cW014
 have cW115 := ck e15 cW114
 have cW215 := ck e15 cW214
 have cW315 := ck e15 cW314
 have cxS015 := ck e15 cxS014
 have cxS115 := ck e15 cxS114
 have cxS215 := ck e15 cxS214
 have cxS315 := ck e15 cxS314
 have cxA015 := ck e15 cxA014
 have cG015 := ck e15 cG014
 have cG115 := ck e15 cG114
 have cG215 := ck e15 cG214
 have cG315 := ck e15 cG314
 have tS15 := tS14.keep e15 (by omega)
 have tA15 := tA14.keep e15 (by omega)
 have tW15 := tW14.keep e15 (by omega)
 have txS15 := txS14.keep e15 (by omega)
 have txA15 := txA14.keep e15 (by omega)
 have tG15 := tG14.keep e15 (by omega)
 clear hw15 lcS014 lcA014 lcW014 lcxS014 lcxA014 lcG014 cS014 cS114 cS214 cS314 cA014 cW014 cW114 cW214 cW314 cxS014 cxS114 cxS214 cxS314 cxA014 cG014 cG114 cG214 cG314 tS14 tA14 tW14 txS14 txA14 tG14
 have d15 : Below w15.heap.size w15 w15.drew := (Below.refl _ _).drew
 have zd15 : w15.heap.size ≤ w15.drew.heap.size := Nat.le_refl _
 have ze15 : w15.drew.heap.size ≤ w15.heap.size := Nat.le_refl _
 have GxS0 : w15.drew.cell? ⟨w8.heap.size, 0, none⟩ = some (.int .i64 sS.ins) := cell_keep d15 cxS015
 have GxS1 : w15.drew.cell? ⟨w8.heap.size, 1, none⟩ = some (.slice aoxS sS.outs.length koxS) := cell_keep d15 cxS115
 have GxS2 : w15.drew.cell? ⟨w8.heap.size, 2, none⟩ = some (.slice ahxS sS.hints.length khxS) := cell_keep d15 cxS215
 have GxS3 : w15.drew.cell? ⟨w8.heap.size, 3, none⟩ = some (.slice acxS sS.cons.length kcxS) := cell_keep d15 cxS315
 have GS0 : w15.drew.cell? ⟨w.heap.size, 0, none⟩ = some (.int .i64 sS.ins) := cell_keep d15 cS015
 have GS1 : w15.drew.cell? ⟨w.heap.size, 1, none⟩ = some (.slice aoS sS.outs.length koS) := cell_keep d15 cS115
 have GS2 : w15.drew.cell? ⟨w.heap.size, 2, none⟩ = some (.slice ahS sS.hints.length khS) := cell_keep d15 cS215
 have GS3 : w15.drew.cell? ⟨w.heap.size, 3, none⟩ = some (.slice acS sS.cons.length kcS) := cell_keep d15 cS315
 have US := tS15.keep d15 (by omega)
 have UxS := txS15.keep d15 (by omega)
 go_region_held3 (fun w' => w'.cell? ⟨w8.heap.size, 0, none⟩ = some (.int .i64 sS.ins) ∧ w'.cell? ⟨w8.heap.size, 1, none⟩ = some (.slice aoxS sS.outs.length koxS) ∧ w'.cell? ⟨w8.heap.size, 2, none⟩ = some (.slice ahxS sS.hints.length khxS) ∧ w'.cell? ⟨w8.heap.size, 3, none⟩ = some (.slice acxS sS.cons.length kcxS) ∧ w'.cell? ⟨w.heap.size, 0, none⟩ = some (.int .i64 sS.ins) ∧ w'.cell? ⟨w.heap.size, 1, none⟩ = some (.slice aoS sS.outs.length koS) ∧ w'.cell? ⟨w.heap.size, 2, none⟩ = some (.slice ahS sS.hints.length khS) ∧ w'.cell? ⟨w.heap.size, 3, none⟩ = some (.slice acS sS.cons.length kcS)) (first | exact ⟨GxS0, GxS1, GxS2, GxS3, GS0, GS1, GS2, GS3⟩ | exact ⟨cell_keep j1 GxS0, cell_keep j1 GxS1, cell_keep j1 GxS2, cell_keep j1 GxS3, cell_keep j1 GS0, cell_keep j1 GS1, cell_keep j1 GS2, cell_keep j1 GS3⟩ | exact ⟨cell_keep j2 (cell_keep j1 GxS0), cell_keep j2 (cell_keep j1 GxS1), cell_keep j2 (cell_keep j1 GxS2), cell_keep j2 (cell_keep j1 GxS3), cell_keep j2 (cell_keep j1 GS0), cell_keep j2 (cell_keep j1 GS1), cell_keep j2 (cell_keep j1 GS2), cell_keep j2 (cell_keep j1 GS3)⟩)
  (first
   | (go_at_call 7; refine (toSys_any false 0 w.heap.size _ _ _ _ sS w15.drew US (by omega) (by omega)).mono ?_; rintro e v1 ⟨uo1, uh1, uc1, rfl, j1, q1⟩; obtain ⟨ao1, ko1, ah1, kh1, ac1, kc1, -, rfl, rfl, rfl, lo1, bo1, lh1, bh1, lc1, bc1, -⟩ := id q1.shape; have s1 := j1.size)
   | (go_at_call 10; refine (eqSys_same _ _ _ _ _ _ _ _ _ _ _ _ _ _ sS v1 (UxS.keep j1 (by omega)) q1 (by omega) (Nat.le_refl _)).mono ?_; rintro e v2 ⟨rfl, j2⟩))
 have s2 := j2.size
 obtain ⟨w16, hw16⟩ : ∃ x, x = v2 := ⟨_, rfl⟩
 subst hw16
 have f16 : Below w15.heap.size w15 w16 := (d15.trans (j1.mono (by omega))).trans (j2.mono (by omega))
 have b16 := b15.trans (f16.mono (by omega))
 have z16 := f16.size
 have cS016 := ck f16 cS015
 have cS116 := ck f16 cS115
 have cS216 := ck f16 cS215
 have cS316 := ck f16 cS315
 have cA016 := ck f16 cA015
 have cW016 := ck f16 cW015
 have cW116 := ck f16 cW115
 have cW216 := ck f16 cW215
 have cW316 := ck f16 cW315
 have cxS016 := ck f16 cxS015
 have cxS116 := ck f16 cxS115
 have cxS216 := ck f16 cxS215
 have cxS316 := ck f16 cxS315
 have cxA016 := ck f16 cxA015
 have cG016 := ck f16 cG015
 have cG116 := ck f16 cG115
 have cG216 := ck f16 cG215
 have cG316 := ck f16 cG315
 have tS16 := tS15.keep f16 (by omega)
 have tA16 := tA15.keep f16 (by omega)
 have tW16 := tW15.keep f16 (by omega)
 have txS16 := txS15.keep f16 (by omega)
 have txA16 := txA15.keep f16 (by omega)
 have tG16 := tG15.keep f16 (by omega)
 clear cS015 cS115 cS215 cS315 cA015 cW015 cW115 cW215 cW315 cxS015 cxS115 cxS215 cxS315 cxA015 cG015 cG115 cG215 cG315 tS15 tA15 tW15 txS15 txA15 tG15 GxS0 GxS1 GxS2 GxS3 GS0 GS1 GS2 GS3 US UxS
 have lcS016 : w.heap.size < w16.heap.size := blt cS016
 have lcA016 : w.heap.size + 1 < w16.heap.size := blt cA016
 have lcW016 : gAW < w16.heap.size := blt cW016
 have lcxS016 : w8.heap.size < w16.heap.size := blt cxS016
 have lcxA016 : w10.heap.size < w16.heap.size := blt cxA016
 have lcG016 : w12.heap.size < w16.heap.size := blt cG016
 go_wp2_with fail
 refine name_wp fun w17 hw17 => ?_
 have b17 : Below w.heap.size w w17 := by rw [hw17]; (repeat (with_reducible first | exact bR _ _ | assumption | refine bD ?_ | refine bN ?_ _ | refine bA ?_ _ | refine bS ?_ _))
 have z17 : w16.heap.size + 0 ≤ w17.heap.size := by rw [hw17]; simp
 have e17 : Below w16.heap.size w16 w17 := by rw [hw17]; (repeat (with_reducible first | exact bR _ _ | assumption | refine bD ?_ | refine bN ?_ _ | refine bA ?_ _ | refine bS ?_ _))
 have cS017 := ck e17 cS016
 have cS117 := ck e17 cS116
 have cS217 := ck e17 cS216
 have cS317 := ck e17 cS316
 have cA017 := ck e17 cA016
 have cW017 := ck e17 cW016
 have cW117 := ck e17 cW116
 have cW217 := ck e17 cW216
 have cW317 := ck e17 cW316
 have cxS017 := ck e17 cxS016
 have cxS117 := ck e17 cxS116
 have cxS217 := ck e17 cxS216
 have cxS317 := ck e17 cxS316
 have cxA017 := ck e17 cxA016
 have cG017 := ck e17 cG016
 have cG117 := ck e17 cG116
 have cG217 := ck e17 cG216
 have cG317 := ck e17 cG316
 have tS17 := tS16.keep e17 (by omega)
 have tA17 := tA16.keep e17 (by omega)
 have tW17 := tW16.keep e17 (by omega)
 have txS17 := txS16.keep e17 (by omega)
 have txA17 := txA16.keep e17 (by omega)
 have tG17 := tG16.keep e17 (by omega)
 clear hw17 lcS016 lcA016 lcW016 lcxS016 lcxA016 lcG016 cS016 cS116 cS216 cS316 cA016 cW016 cW116 cW216 cW316 cxS016 cxS116 cxS216 cxS316 cxA016 cG016 cG116 cG216 cG316 tS16 tA16 tW16 txS16 txA16 tG16
 have d17 : Below w17.heap.size w17 w17.drew := (Below.refl _ _).drew
 have zd17 : w17.heap.size ≤ w17.drew.heap.size := Nat.le_refl _
 have ze17 : w17.drew.heap.size ≤ w17.heap.size := Nat.le_refl _
 have GxA0 : w17.drew.cell? ⟨w10.heap.size, 0, none⟩ = some (.slice axA tsA.length kxA) := cell_keep d17 cxA017
 have GA0 : w17.drew.cell? ⟨w.heap.size + 1, 0, none⟩ = some (.slice aA tsA.length kA) := cell_keep d17 cA017
 have UA := tA17.keep d17 (by omega)
 have UxA := txA17.keep d17 (by omega)
 go_region_held3 (fun w' => w'.cell? ⟨w10.heap.size, 0, none⟩ = some (.slice axA tsA.length kxA) ∧ w'.cell? ⟨w.heap.size + 1, 0, none⟩ = some (.slice aA tsA.length kA)) (first | exact ⟨GxA0, GA0⟩ | exact ⟨cell_keep j1 GxA0, cell_keep j1 GA0⟩ | exact ⟨cell_keep j2 (cell_keep j1 GxA0), cell_keep j2 (cell_keep j1 GA0)⟩)
  (first
   | (go_at_call 8; refine (toLin_any false 0 w.heap.size _ tsA w17.drew UA (by omega) (by omega)).mono ?_; rintro e v1 ⟨uo1, rfl, j1, q1⟩; obtain ⟨a1, k1, rfl, la1, ba1⟩ := id q1.shape; have s1 := j1.size)
   | (go_at_call 11; refine (eqLin_same _ _ _ _ _ _ _ _ tsA v1 (UxA.keep j1 (by omega)) q1 (by omega) (Nat.le_refl _)).mono ?_; rintro e v2 ⟨rfl, j2⟩))
 have s2 := j2.size
 obtain ⟨w18, hw18⟩ : ∃ x, x = v2 := ⟨_, rfl⟩
 subst hw18
 have f18 : Below w17.heap.size w17 w18 := (d17.trans (j1.mono (by omega))).trans (j2.mono (by omega))
 have b18 := b17.trans (f18.mono (by omega))
 have z18 := f18.size
 have cS018 := ck f18 cS017
 have cS118 := ck f18 cS117
 have cS218 := ck f18 cS217
 have cS318 := ck f18 cS317
 have cA018 := ck f18 cA017
 have cW018 := ck f18 cW017
 have cW118 := ck f18 cW117
 have cW218 := ck f18 cW217
 have cW318 := ck f18 cW317
 have cxS018 := ck f18 cxS017
 have cxS118 := ck f18 cxS117
 have cxS218 := ck f18 cxS217
 have cxS318 := ck f18 cxS317
 have cxA018 := ck f18 cxA017
 have cG018 := ck f18 cG017
 have cG118 := ck f18 cG117
 have cG218 := ck f18 cG217
 have cG318 := ck f18 cG317
 have tS18 := tS17.keep f18 (by omega)
 have tA18 := tA17.keep f18 (by omega)
 have tW18 := tW17.keep f18 (by omega)
 have txS18 := txS17.keep f18 (by omega)
 have txA18 := txA17.keep f18 (by omega)
 have tG18 := tG17.keep f18 (by omega)
 clear cS017 cS117 cS217 cS317 cA017 cW017 cW117 cW217 cW317 cxS017 cxS117 cxS217 cxS317 cxA017 cG017 cG117 cG217 cG317 tS17 tA17 tW17 txS17 txA17 tG17 GxA0 GA0 UA UxA
 have lcS018 : w.heap.size < w18.heap.size := blt cS018
 have lcA018 : w.heap.size + 1 < w18.heap.size := blt cA018
 have lcW018 : gAW < w18.heap.size := blt cW018
 have lcxS018 : w8.heap.size < w18.heap.size := blt cxS018
 have lcxA018 : w10.heap.size < w18.heap.size := blt cxA018
 have lcG018 : w12.heap.size < w18.heap.size := blt cG018
 go_wp2_with fail
 refine name_call fun w19 hw19 => ?_
 have b19 : Below w.heap.size w w19 := by rw [hw19]; (repeat (with_reducible first | exact bR _ _ | assumption | refine bD ?_ | refine bN ?_ _ | refine bA ?_ _ | refine bS ?_ _))
 have z19 : w18.heap.size + 0 ≤ w19.heap.size := by rw [hw19]; simp
 have e19 : Below w18.heap.size w18 w19 := by rw [hw19]; (repeat (with_reducible first | exact bR _ _ | assumption | refine bD ?_ | refine bN ?_ _ | refine bA ?_ _ | refine bS ?_ _))
 have cS019 := ck e19 cS018
 have cS119 := ck e19 cS118
 have cS219 := ck e19 cS218
 have cS319 := ck e19 cS318
 have cA019 := ck e19 cA018
 have cW019 := ck e19 cW018
 have cW119 := ck e19 cW118
 have cW219 := ck e19 cW218
 have cW319 := ck e19 cW318
 have cxS019 := ck e19 cxS018
 have cxS119 := ck e19 cxS118
 have cxS219 := ck e19 cxS218
 have cxS319 := ck e19 cxS318
 have cxA019 := ck e19 cxA018
 have cG019 := ck e19 cG018
 have cG119 := ck e19 cG118
 have cG219 := ck e19 cG218
 have cG319 := ck e19 cG318
 have tS19 := tS18.keep e19 (by omega)
 have tA19 := tA18.keep e19 (by omega)
 have tW19 := tW18.keep e19 (by omega)
 have txS19 := txS18.keep e19 (by omega)
 have txA19 := txA18.keep e19 (by omega)
 have tG19 := tG18.keep e19 (by omega)
 clear hw19 lcS018 lcA018 lcW018 lcxS018 lcxA018 lcG018 cS018 cS118 cS218 cS318 cA018 cW018 cW118 cW218 cW318 cxS018 cxS118 cxS218 cxS318 cxA018 cG018 cG118 cG218 cG318 tS18 tA18 tW18 txS18 txA18 tG18
 refine (markSys_any _ _ _ _ _ _ sS (1) _ txS19 (by omega) (by omega)).mono ?_; rintro e w20 ⟨rfl, f20, q20⟩
 have d20 : Below w.heap.size w19 w20 := f20.below (by omega) (by omega)
 have b20 := b19.trans d20
 have z20 := f20.size
 have cS020 := (f20.cell (b := w.heap.size) (by omega) (by omega) 0).trans cS019
 have cS120 := (f20.cell (b := w.heap.size) (by omega) (by omega) 1).trans cS119
 have cS220 := (f20.cell (b := w.heap.size) (by omega) (by omega) 2).trans cS219
 have cS320 := (f20.cell (b := w.heap.size) (by omega) (by omega) 3).trans cS319
 have cA020 := (f20.cell (b := w.heap.size + 1) (by omega) (by omega) 0).trans cA019
 have cW020 := (f20.cell (b := gAW) (by omega) (by omega) 0).trans cW019
 have cW120 := (f20.cell (b := gAW) (by omega) (by omega) 1).trans cW119
 have cW220 := (f20.cell (b := gAW) (by omega) (by omega) 2).trans cW219
 have cW320 := (f20.cell (b := gAW) (by omega) (by omega) 3).trans cW319
 have cxS020 := (f20.cell (b := w8.heap.size) (by omega) (by omega) 0).trans cxS019
 have cxS120 := (f20.cell (b := w8.heap.size) (by omega) (by omega) 1).trans cxS119
 have cxS220 := (f20.cell (b := w8.heap.size) (by omega) (by omega) 2).trans cxS219
 have cxS320 := (f20.cell (b := w8.heap.size) (by omega) (by omega) 3).trans cxS319
 have cxA020 := (f20.cell (b := w10.heap.size) (by omega) (by omega) 0).trans cxA019
 have cG020 := (f20.cell (b := w12.heap.size) (by omega) (by omega) 0).trans cG019
 have cG120 := (f20.cell (b := w12.heap.size) (by omega) (by omega) 1).trans cG119
 have cG220 := (f20.cell (b := w12.heap.size) (by omega) (by omega) 2).trans cG219
 have cG320 := (f20.cell (b := w12.heap.size) (by omega) (by omega) 3).trans cG319
 have tS20 := tS19.keep d20 (Nat.le_refl _)
 have tA20 := tA19.keep d20 (Nat.le_refl _)
 have tW20 := tW19.only f20 (by omega) (by omega)
 have txA20 := txA19.only f20 (by omega) (by omega)
 have tG20 := tG19.only f20 (by omega) (by omega)
 clear cS019 cS119 cS219 cS319 cA019 cW019 cW119 cW219 cW319 cxS019 cxS119 cxS219 cxS319 cxA019 cG019 cG119 cG219 cG319 tS19 tA19 tW19 txS19 txA19 tG19
 have lcS020 : w.heap.size < w20.heap.size := blt cS020
 have lcA020 : w.heap.size + 1 < w20.heap.size := blt cA020
 have lcW020 : gAW < w20.heap.size := blt cW020
 have lcxS020 : w8.heap.size < w20.heap.size := blt cxS020
 have lcxA020 : w10.heap.size < w20.heap.size := blt cxA020
 have lcG020 : w12.heap.size < w20.heap.size := blt cG020
 go_wp2_with fail
 refine name_call fun w21 hw21 => ?_
 have b21 : Below w.heap.size w w21 := by rw [hw21]; (repeat (with_reducible first | exact bR _ _ | assumption | refine bD ?_ | refine bN ?_ _ | refine bA ?_ _ | refine bS ?_ _))
 have z21 : w20.heap.size + 0 ≤ w21.heap.size := by rw [hw21]; simp
 have e21 : Below w20.heap.size w20 w21 := by rw [hw21]; (repeat (with_reducible first | exact bR _ _ | assumption | refine bD ?_ | refine bN ?_ _ | refine bA ?_ _ | refine bS ?_ _))
 have cS021 := ck e21 cS020
 have cS121 := ck e21 cS120
 have cS221 := ck e21 cS220
 have cS321 := ck e21 cS320
 have cA021 := ck e21 cA020
 have cW021 := ck e21 cW020
 have cW121 := ck e21 cW120
 have cW221 := ck e21 cW220
 have cW321 := ck e21 cW320
 have cxS021 := ck e21 cxS020
 have cxS121 := ck e21 cxS120
 have cxS221 := ck e21 cxS220
 have cxS321 := ck e21 cxS320
 have cxA021 := ck e21 cxA020
 have cG021 := ck e21 cG020
 have cG121 := ck e21 cG120
 have cG221 := ck e21 cG220
 have cG321 := ck e21 cG320
 have tS21 := tS20.keep e21 (by omega)
 have tA21 := tA20.keep e21 (by omega)
 have tW21 := tW20.keep e21 (by omega)
 have txS21 := q20.keep e21 (by omega)
 have txA21 := txA20.keep e21 (by omega)
 have tG21 := tG20.keep e21 (by omega)
 clear hw21 lcS020 lcA020 lcW020 lcxS020 lcxA020 lcG020 cS020 cS120 cS220 cS320 cA020 cW020 cW120 cW220 cW320 cxS020 cxS120 cxS220 cxS320 cxA020 cG020 cG120 cG220 cG320 tS20 tA20 tW20 txA20 tG20
 refine (markLin_any _ _ _ tsA (1 + totS sS) _ txA21 (by omega) (by omega) (by omega)).mono ?_; rintro e w22 ⟨rfl, f22, q22⟩
 have d22 : Below w.heap.size w21 w22 := f22.below (by omega) (by omega)
 have b22 := b21.trans d22
 have z22 := f22.size
 have cS022 := (f22.cell (b := w.heap.size) (by omega) (by omega) 0).trans cS021
 have cS122 := (f22.cell (b := w.heap.size) (by omega) (by omega) 1).trans cS121
 have cS222 := (f22.cell (b := w.heap.size) (by omega) (by omega) 2).trans cS221
 have cS322 := (f22.cell (b := w.heap.size) (by omega) (by omega) 3).trans cS321
 have cA022 := (f22.cell (b := w.heap.size + 1) (by omega) (by omega) 0).trans cA021
 have cW022 := (f22.cell (b := gAW) (by omega) (by omega) 0).trans cW021
 have cW122 := (f22.cell (b := gAW) (by omega) (by omega) 1).trans cW121
 have cW222 := (f22.cell (b := gAW) (by omega) (by omega) 2).trans cW221
 have cW322 := (f22.cell (b := gAW) (by omega) (by omega) 3).trans cW321
 have cxS022 := (f22.cell (b := w8.heap.size) (by omega) (by omega) 0).trans cxS021
 have cxS122 := (f22.cell (b := w8.heap.size) (by omega) (by omega) 1).trans cxS121
 have cxS222 := (f22.cell (b := w8.heap.size) (by omega) (by omega) 2).trans cxS221
 have cxS322 := (f22.cell (b := w8.heap.size) (by omega) (by omega) 3).trans cxS321
 have cxA022 := (f22.cell (b := w10.heap.size) (by omega) (by omega) 0).trans cxA021
 have cG022 := (f22.cell (b := w12.heap.size) (by omega) (by omega) 0).trans cG021
 have cG122 := (f22.cell (b := w12.heap.size) (by omega) (by omega) 1).trans cG121
 have cG222 := (f22.cell (b := w12.heap.size) (by omega) (by omega) 2).trans cG221
 have cG322 := (f22.cell (b := w12.heap.size) (by omega) (by omega) 3).trans cG321
 have tS22 := tS21.keep d22 (Nat.le_refl _)
 have tA22 := tA21.keep d22 (Nat.le_refl _)
 have tW22 := tW21.only f22 (by omega) (by omega)
 have txS22 := txS21.only f22 (by omega) (by omega)
 have tG22 := tG21.only f22 (by omega) (by omega)
 clear cS021 cS121 cS221 cS321 cA021 cW021 cW121 cW221 cW321 cxS021 cxS121 cxS221 cxS321 cxA021 cG021 cG121 cG221 cG321 tS21 tA21 tW21 txS21 txA21 tG21
 have lcS022 : w.heap.size < w22.heap.size := blt cS022
 have lcA022 : w.heap.size + 1 < w22.heap.size := blt cA022
 have lcW022 : gAW < w22.heap.size := blt cW022
 have lcxS022 : w8.heap.size < w22.heap.size := blt cxS022
 have lcxA022 : w10.heap.size < w22.heap.size := blt cxA022
 have lcG022 : w12.heap.size < w22.heap.size := blt cG022
 go_wp2_with fail
 refine name_call fun w23 hw23 => ?_
 have b23 : Below w.heap.size w w23 := by rw [hw23]; (repeat (with_reducible first | exact bR _ _ | assumption | refine bD ?_ | refine bN ?_ _ | refine bA ?_ _ | refine bS ?_ _))
 have z23 : w22.heap.size + 0 ≤ w23.heap.size := by rw [hw23]; simp
 have e23 : Below w22.heap.size w22 w23 := by rw [hw23]; (repeat (with_reducible first | exact bR _ _ | assumption | refine bD ?_ | refine bN ?_ _ | refine bA ?_ _ | refine bS ?_ _))
 have cS023 := ck e23 cS022
 have cS123 := ck e23 cS122
 have cS223 := ck e23 cS222
 have cS323 := ck e23 cS322
 have cA023 := ck e23 cA022
 have cW023 := ck e23 cW022
 have cW123 := ck e23 cW122
 have cW223 := ck e23 cW222
 have cW323 := ck e23 cW322
 have cxS023 := ck e23 cxS022
 have cxS123 := ck e23 cxS122
 have cxS223 := ck e23 cxS222
 have cxS323 := ck e23 cxS322
 have cxA023 := ck e23 cxA022
 have cG023 := ck e23 cG022
 have cG123 := ck e23 cG122
 have cG223 := ck e23 cG222
 have cG323 := ck e23 cG322
 have tS23 := tS22.keep e23 (by omega)
 have tA23 := tA22.keep e23 (by omega)
 have tW23 := tW22.keep e23 (by omega)
 have txS23 := txS22.keep e23 (by omega)
 have txA23 := q22.keep e23 (by omega)
 have tG23 := tG22.keep e23 (by omega)
 clear hw23 lcS022 lcA022 lcW022 lcxS022 lcxA022 lcG022 cS022 cS122 cS222 cS322 cA022 cW022 cW122 cW222 cW322 cxS022 cxS122 cxS222 cxS322 cxA022 cG022 cG122 cG222 cG322 tS22 tA22 tW22 txS22 tG22
 refine (eqSys_same _ _ _ _ _ _ _ _ _ _ _ _ _ _ r _ (tG23.sys) (tW23) (by omega) (by omega)).mono ?_; rintro e w24 ⟨rfl, f24⟩
 have b24 := b23.trans (f24.mono (by omega))
 have z24 := f24.size
 have cS024 := ck f24 cS023
 have cS124 := ck f24 cS123
 have cS224 := ck f24 cS223
 have cS324 := ck f24 cS323
 have cA024 := ck f24 cA023
 have cW024 := ck f24 cW023
 have cW124 := ck f24 cW123
 have cW224 := ck f24 cW223
 have cW324 := ck f24 cW323
 have cxS024 := ck f24 cxS023
 have cxS124 := ck f24 cxS123
 have cxS224 := ck f24 cxS223
 have cxS324 := ck f24 cxS323
 have cxA024 := ck f24 cxA023
 have cG024 := ck f24 cG023
 have cG124 := ck f24 cG123
 have cG224 := ck f24 cG223
 have cG324 := ck f24 cG323
 have tS24 := tS23.keep f24 (by omega)
 have tA24 := tA23.keep f24 (by omega)
 have tW24 := tW23.keep f24 (by omega)
 have txS24 := txS23.keep f24 (by omega)
 have txA24 := txA23.keep f24 (by omega)
 have tG24 := tG23.keep f24 (by omega)
 clear cS023 cS123 cS223 cS323 cA023 cW023 cW123 cW223 cW323 cxS023 cxS123 cxS223 cxS323 cxA023 cG023 cG123 cG223 cG323 tS23 tA23 tW23 txS23 txA23 tG23
 clear txS24
 clear txA24
 clear cxS024
 clear cxS124
 clear cxS224
 clear cxS324
 clear cxA024
 have lcS024 : w.heap.size < w24.heap.size := blt cS024
 have lcA024 : w.heap.size + 1 < w24.heap.size := blt cA024
 have lcW024 : gAW < w24.heap.size := blt cW024
 have lcG024 : w12.heap.size < w24.heap.size := blt cG024
 go_wp2_with fail
 refine name_call fun w25 hw25 => ?_
 have b25 : Below w.heap.size w w25 := by rw [hw25]; (repeat (with_reducible first | exact bR _ _ | assumption | refine bD ?_ | refine bN ?_ _ | refine bA ?_ _ | refine bS ?_ _))
 have z25 : w24.heap.size + 0 ≤ w25.heap.size := by rw [hw25]; simp
 have e25 : Below w24.heap.size w24 w25 := by rw [hw25]; (repeat (with_reducible first | exact bR _ _ | assumption | refine bD ?_ | refine bN ?_ _ | refine bA ?_ _ | refine bS ?_ _))
 have cS025 := ck e25 cS024
 have cS125 := ck e25 cS124
 have cS225 := ck e25 cS224
 have cS325 := ck e25 cS324
 have cA025 := ck e25 cA024
 have cW025 := ck e25 cW024
 have cW125 := ck e25 cW124
 have cW225 := ck e25 cW224
 have cW325 := ck e25 cW324
 have cG025 := ck e25 cG024
 have cG125 := ck e25 cG124
 have cG225 := ck e25 cG224
 have cG325 := ck e25 cG324
 have tS25 := tS24.keep e25 (by omega)
 have tA25 := tA24.keep e25 (by omega)
 have tW25 := tW24.keep e25 (by omega)
 have tG25 := tG24.keep e25 (by omega)
 clear hw25 lcS024 lcA024 lcW024 lcG024 cS024 cS124 cS224 cS324 cA024 cW024 cW124 cW224 cW324 cG024 cG124 cG224 cG324 tS24 tA24 tW24 tG24
 refine (AnsSB.mark1 1 tG25 (by omega)).mono ?_; rintro e w26 ⟨rfl, f26, q26⟩
 have d26 : Below w.heap.size w25 w26 := f26.below (by omega) (by omega)
 have b26 := b25.trans d26
 have z26 := f26.size
 have cS026 := (f26.cell (b := w.heap.size) (by omega) (by omega) 0).trans cS025
 have cS126 := (f26.cell (b := w.heap.size) (by omega) (by omega) 1).trans cS125
 have cS226 := (f26.cell (b := w.heap.size) (by omega) (by omega) 2).trans cS225
 have cS326 := (f26.cell (b := w.heap.size) (by omega) (by omega) 3).trans cS325
 have cA026 := (f26.cell (b := w.heap.size + 1) (by omega) (by omega) 0).trans cA025
 have cW026 := (f26.cell (b := gAW) (by omega) (by omega) 0).trans cW025
 have cW126 := (f26.cell (b := gAW) (by omega) (by omega) 1).trans cW125
 have cW226 := (f26.cell (b := gAW) (by omega) (by omega) 2).trans cW225
 have cW326 := (f26.cell (b := gAW) (by omega) (by omega) 3).trans cW325
 have cG026 := (f26.cell (b := w12.heap.size) (by omega) (by omega) 0).trans cG025
 have cG126 := (f26.cell (b := w12.heap.size) (by omega) (by omega) 1).trans cG125
 have cG226 := (f26.cell (b := w12.heap.size) (by omega) (by omega) 2).trans cG225
 have cG326 := (f26.cell (b := w12.heap.size) (by omega) (by omega) 3).trans cG325
 have tS26 := tS25.keep d26 (Nat.le_refl _)
 have tA26 := tA25.keep d26 (Nat.le_refl _)
 have tW26 := tW25.only f26 (by omega) (by omega)
 clear cS025 cS125 cS225 cS325 cA025 cW025 cW125 cW225 cW325 cG025 cG125 cG225 cG325 tS25 tA25 tW25 tG25
 have lcS026 : w.heap.size < w26.heap.size := blt cS026
 have lcA026 : w.heap.size + 1 < w26.heap.size := blt cA026
 have lcW026 : gAW < w26.heap.size := blt cW026
 have lcG026 : w12.heap.size < w26.heap.size := blt cG026
 go_wp2_with fail
 refine name_call fun w27 hw27 => ?_
 have b27 : Below w.heap.size w w27 := by rw [hw27]; (repeat (with_reducible first | exact bR _ _ | assumption | refine bD ?_ | refine bN ?_ _ | refine bA ?_ _ | refine bS ?_ _))
 have z27 : w26.heap.size + 0 ≤ w27.heap.size := by rw [hw27]; simp
 have e27 : Below w26.heap.size w26 w27 := by rw [hw27]; (repeat (with_reducible first | exact bR _ _ | assumption | refine bD ?_ | refine bN ?_ _ | refine bA ?_ _ | refine bS ?_ _))
 have cS027 := ck e27 cS026
 have cS127 := ck e27 cS126
 have cS227 := ck e27 cS226
 have cS327 := ck e27 cS326
 have cA027 := ck e27 cA026
 have cW027 := ck e27 cW026
 have cW127 := ck e27 cW126
 have cW227 := ck e27 cW226
 have cW327 := ck e27 cW326
 have cG027 := ck e27 cG026
 have cG127 := ck e27 cG126
 have cG227 := ck e27 cG226
 have cG327 := ck e27 cG326
 have tS27 := tS26.keep e27 (by omega)
 have tA27 := tA26.keep e27 (by omega)
 have tW27 := tW26.keep e27 (by omega)
 have tG27 := q26.keep e27 (by omega)
 clear hw27 lcS026 lcA026 lcW026 lcG026 cS026 cS126 cS226 cS326 cA026 cW026 cW126 cW226 cW326 cG026 cG126 cG226 cG326 tS26 tA26 tW26
 refine (heldSys_any _ _ _ _ _ _ _ r 1 _ (tG27.sys) (by omega) (by omega)).mono ?_; rintro e w28 ⟨rfl, f28⟩
 have b28 := b27.trans (f28.mono (by omega))
 have z28 := f28.size
 have cS028 := ck f28 cS027
 have cS128 := ck f28 cS127
 have cS228 := ck f28 cS227
 have cS328 := ck f28 cS327
 have cA028 := ck f28 cA027
 have cW028 := ck f28 cW027
 have cW128 := ck f28 cW127
 have cW228 := ck f28 cW227
 have cW328 := ck f28 cW327
 have cG028 := ck f28 cG027
 have cG128 := ck f28 cG127
 have cG228 := ck f28 cG227
 have cG328 := ck f28 cG327
 have tS28 := tS27.keep f28 (by omega)
 have tA28 := tA27.keep f28 (by omega)
 have tW28 := tW27.keep f28 (by omega)
 have tG28 := tG27.keep f28 (by omega)
 clear cS027 cS127 cS227 cS327 cA027 cW027 cW127 cW227 cW327 cG027 cG127 cG227 cG327 tS27 tA27 tW27 tG27
 have lcS028 : w.heap.size < w28.heap.size := blt cS028
 have lcA028 : w.heap.size + 1 < w28.heap.size := blt cA028
 have lcW028 : gAW < w28.heap.size := blt cW028
 have lcG028 : w12.heap.size < w28.heap.size := blt cG028
 go_wp2_with fail
 refine name_wp fun w29 hw29 => ?_
 have b29 : Below w.heap.size w w29 := by rw [hw29]; (repeat (with_reducible first | exact bR _ _ | assumption | refine bD ?_ | refine bN ?_ _ | refine bA ?_ _ | refine bS ?_ _))
 have z29 : w28.heap.size + 0 ≤ w29.heap.size := by rw [hw29]; simp
 have e29 : Below w28.heap.size w28 w29 := by rw [hw29]; (repeat (with_reducible first | exact bR _ _ | assumption | refine bD ?_ | refine bN ?_ _ | refine bA ?_ _ | refine bS ?_ _))
 have cS029 := ck e29 cS028
 have cS129 := ck e29 cS128
 have cS229 := ck e29 cS228
 have cS329 := ck e29 cS328
 have cA029 := ck e29 cA028
 have cW029 := ck e29 cW028
 have cW129 := ck e29 cW128
 have cW229 := ck e29 cW228
 have cW329 := ck e29 cW328
 have cG029 := ck e29 cG028
 have cG129 := ck e29 cG128
 have cG229 := ck e29 cG228
 have cG329 := ck e29 cG328
 have tS29 := tS28.keep e29 (by omega)
 have tA29 := tA28.keep e29 (by omega)
 have tW29 := tW28.keep e29 (by omega)
 have tG29 := tG28.keep e29 (by omega)
 clear hw29 lcS028 lcA028 lcW028 lcG028 cS028 cS128 cS228 cS328 cA028 cW028 cW128 cW228 cW328 cG028 cG128 cG228 cG328 tS28 tA28 tW28 tG28
 have d0H : Below w29.heap.size w29 w29.drew := (Below.refl _ _).drew
 have zrH : w29.drew.heap.size = w29.heap.size := rfl
 have US := tS29.keep d0H (by omega)
 have UA := tA29.keep d0H (by omega)
 have GS0 : w29.drew.cell? ⟨w.heap.size, 0, none⟩ = some (.int .i64 sS.ins) := cell_keep d0H cS029
 have GS1 : w29.drew.cell? ⟨w.heap.size, 1, none⟩ = some (.slice aoS sS.outs.length koS) := cell_keep d0H cS129
 have GS2 : w29.drew.cell? ⟨w.heap.size, 2, none⟩ = some (.slice ahS sS.hints.length khS) := cell_keep d0H cS229
 have GS3 : w29.drew.cell? ⟨w.heap.size, 3, none⟩ = some (.slice acS sS.cons.length kcS) := cell_keep d0H cS329
 have GA0 : w29.drew.cell? ⟨w.heap.size + 1, 0, none⟩ = some (.slice aA tsA.length kA) := cell_keep d0H cA029
 go_cut [17, 18] (fun s17 s18 wx => CutSB w29.drew r ok s17 s18 wx)
 case first =>
  rename_i J K' hJ hK
  refine wp_region_drawn [17, 18, 98, 99, 100, 101, 102, 103, 104, 105, 106] (fun d u wx => Below w29.drew.heap.size w29.drew wx ∧ (d 0 = true → u 99 = .agg #[.int .i64 sS.ins, .slice aoS sS.outs.length koS, .slice ahS sS.hints.length khS, .slice acS sS.cons.length kcS]) ∧ ArgSys (d 1) (d 5) sS (u 100) wx ∧ (d 2 = true → u 101 = .agg #[.slice aA tsA.length kA]) ∧ ArgLin (d 3) (d 5) tsA (u 102) wx ∧ (d 4 = true → u 103 = .int .i64 nN) ∧ ResSB w29.drew r ok (d 5) (d 6) (d 7) (d 8) (d 9) (d 10) (d 11) (u 104) (u 98) (u 105) (u 106) (u 17) (u 18) wx) (by kernel_rfl) (by kernel_rfl) (by kernel_rfl) ?_ ?_ ?_
  ·intro u; exact ⟨Below.refl _ _, vac rfl, ArgSys.none, vac rfl, ArgLin.none, vac rfl, ResSB.start⟩
  ·refine ⟨?_, ?_, ?_, ?_, ?_, ?_, ?_, ?_, ?_, ?_, ?_, ?_, trivial⟩
   ·intro d u wx h0 hd hF
    obtain ⟨hb, f0, f1, f2, f3, f4, fR⟩ := hF
    have sz := hb.size
    refine Wpv.env fun ρ hin hout hcon hfun => ?_
    have E3 : ρ (.tmp 3) = .pointer (some ⟨w.heap.size, 0, none⟩) := (hout 3 (by kernel_rfl)).trans (by kernel_rfl)
    clear hin hout
    have c0 := cell_keep hb GS0
    have c1 := cell_keep hb GS1
    have c2 := cell_keep hb GS2
    have c3 := cell_keep hb GS3
    refine Wpv.value (v := .agg #[.int .i64 sS.ins, .slice aoS sS.outs.length koS, .slice ahS sS.hints.length khS, .slice acS sS.cons.length kcS]) (w' := wx) ?_ ⟨hb, fun _ => rfl, f1, f2, f3, f4, fR⟩
    clear f0 f1 f2 f3 f4 fR
    simp only [execOp]; rw [E3]; go_simp
   ·intro d u wx h0 hd hF
    obtain ⟨hb, f0, f1, f2, f3, f4, fR⟩ := hF
    have sz := hb.size
    refine Wpv.env fun ρ hin hout hcon hfun => ?_
    have E99 := hin 99 (by kernel_rfl)
    clear hin hout
    have e := E99.trans (f0 (hd.get (j := 0) (by kernel_rfl)))
    have t := US.keep hb (by omega)
    refine Wpv.enter (f := 7) (args := #[.agg #[.int .i64 sS.ins, .slice aoS sS.outs.length koS, .slice ahS sS.hints.length khS, .slice acS sS.cons.length kcS]]) (w' := wx) (by clear f0 f1 f2 f3 f4 fR t E99; go_simp) (toSys_any _ _ _ _ _ _ _ sS wx t (by omega) (by omega)) ?_
    rintro e' w' ⟨a1, a2, a3, rfl, j1, t1⟩
    exact ⟨_, rfl, ⟨hb.trans (j1.mono sz), f0, ArgSys.new t1, f2, f3.keep j1, f4, fR.keep j1⟩⟩
   ·intro d u wx h0 hd hF
    obtain ⟨hb, f0, f1, f2, f3, f4, fR⟩ := hF
    have sz := hb.size
    refine Wpv.env fun ρ hin hout hcon hfun => ?_
    have E4 : ρ (.tmp 4) = .pointer (some ⟨w.heap.size + 1, 0, none⟩) := (hout 4 (by kernel_rfl)).trans (by kernel_rfl)
    clear hin hout
    have c0 := cell_keep hb GA0
    refine Wpv.value (v := .agg #[.slice aA tsA.length kA]) (w' := wx) ?_ ⟨hb, f0, f1, fun _ => rfl, f3, f4, fR⟩
    clear f0 f1 f2 f3 f4 fR
    simp only [execOp]; rw [E4]; go_simp
   ·intro d u wx h0 hd hF
    obtain ⟨hb, f0, f1, f2, f3, f4, fR⟩ := hF
    have sz := hb.size
    refine Wpv.env fun ρ hin hout hcon hfun => ?_
    have E101 := hin 101 (by kernel_rfl)
    clear hin hout
    have e := E101.trans (f2 (hd.get (j := 2) (by kernel_rfl)))
    have t := UA.keep hb (by omega)
    refine Wpv.enter (f := 8) (args := #[.agg #[.slice aA tsA.length kA]]) (w' := wx) (by clear f0 f1 f2 f3 f4 fR t E101; go_simp) (toLin_any _ _ _ _ tsA wx t (by omega) (by omega)) ?_
    rintro e' w' ⟨a1, rfl, j1, t1⟩
    exact ⟨_, rfl, ⟨hb.trans (j1.mono sz), f0, f1.keep j1, f2, ArgLin.new t1, f4, fR.keep j1⟩⟩
   ·intro d u wx h0 hd hF
    obtain ⟨hb, f0, f1, f2, f3, f4, fR⟩ := hF
    have sz := hb.size
    refine Wpv.env fun ρ hin hout hcon hfun => ?_
    have E2 : ρ (.tmp 2) = .int .i64 nN := (hout 2 (by kernel_rfl)).trans (by kernel_rfl)
    clear hin hout
    exact Wpv.value (v := .int .i64 nN) (by simp only [execOp]; rw [E2]; rfl) ⟨hb, f0, f1, f2, f3, fun _ => rfl, fR⟩
   ·intro d u wx h0 hd hF
    obtain ⟨hb, f0, f1, f2, f3, f4, fR⟩ := hF
    have sz := hb.size
    refine Wpv.env fun ρ hin hout hcon hfun => ?_
    have E100 := hin 100 (by kernel_rfl)
    have E102 := hin 102 (by kernel_rfl)
    have E103 := hin 103 (by kernel_rfl)
    clear hin hout
    obtain ⟨x1S, x2S, x3S, e0S, tS⟩ := f1 (hd.get (j := 1) (by kernel_rfl)) h0
    have eS := E100.trans e0S
    obtain ⟨x1A, e0A, tA⟩ := f3 (hd.get (j := 3) (by kernel_rfl)) h0
    have eA := E102.trans e0A
    have eN := E103.trans (f4 (hd.get (j := 4) (by kernel_rfl)))
    rw [h0] at fR
    refine Wpv.enter (f := 9) (args := #[.agg #[.int .i64 sS.ins, x1S, x2S, x3S], .agg #[x1A], .int .i64 nN]) (w' := wx) (by clear E100 E102 E103 tS tA e0S e0A f0 f1 f2 f3 f4 fR; go_simp) (addRange_impl _ _ _ _ _ _ _ sS _ _ _ _ tsA nN _ tS (Nat.le_refl _) sm tA (Nat.le_refl _) (by omega) n Hn.out m Hm.out ok r Ho Hr) ?_
    intro e' w' hq
    obtain ⟨uu, hu, j1, hr⟩ := ResSB.main fR hb hq
    exact ⟨uu, hu, ⟨hb.trans (j1.mono sz), f0, ArgSys.past, f2, ArgLin.past, f4, hr⟩⟩
   ·intro d u wx h0 hd hF
    obtain ⟨hb, f0, f1, f2, f3, f4, fR⟩ := hF
    have sz := hb.size
    refine Wpv.env fun ρ hin hout hcon hfun => ?_
    have E104 := hin 104 (by kernel_rfl)
    clear hin hout
    exact Wpv.value (v := u 104) (by simp only [execOp]; rw [E104]; rfl) ⟨hb, f0, f1, f2, f3, f4, (ResSB.moveD (hd.get (j := 5) (by kernel_rfl)) fR)⟩
   ·intro d u wx h0 hd hF
    obtain ⟨hb, f0, f1, f2, f3, f4, fR⟩ := hF
    have sz := hb.size
    refine Wpv.env fun ρ hin hout hcon hfun => ?_
    have E98 := hin 98 (by kernel_rfl)
    clear hin hout
    have hm : d 6 = true := hd.get (j := 6) (by kernel_rfl)
    obtain ⟨x, b, e⟩ := ResSB.tupD hm fR
    have e1 := E98.trans e
    refine Wpv.value (v := x) (w' := wx) (by clear e E98 f0 f1 f2 f3 f4 fR; go_simp) ⟨hb, f0, f1, f2, f3, f4, (ResSB.ex0D hm e fR)⟩
   ·intro d u wx h0 hd hF
    obtain ⟨hb, f0, f1, f2, f3, f4, fR⟩ := hF
    have sz := hb.size
    refine Wpv.env fun ρ hin hout hcon hfun => ?_
    have E98 := hin 98 (by kernel_rfl)
    clear hin hout
    have hm : d 6 = true := hd.get (j := 6) (by kernel_rfl)
    obtain ⟨x, b, e⟩ := ResSB.tupD hm fR
    have e1 := E98.trans e
    refine Wpv.value (v := b) (w' := wx) (by clear e E98 f0 f1 f2 f3 f4 fR; go_simp) ⟨hb, f0, f1, f2, f3, f4, (ResSB.ex2D hm e fR)⟩
   ·intro d u wx h0 hd hF
    obtain ⟨hb, f0, f1, f2, f3, f4, fR⟩ := hF
    have sz := hb.size
    refine Wpv.env fun ρ hin hout hcon hfun => ?_
    clear hin hout
    rw [h0] at fR
    have j1 : Below wx.heap.size wx (wx.alloc (.cells #[.int .i64 0, .slice none 0 0, .slice none 0 0, .slice none 0 0] 36)) := balloc (Nat.le_refl _) (Below.refl _ _) _
    refine Wpv.value (v := .pointer (some ⟨wx.heap.size, 0, none⟩)) (w' := wx.alloc (.cells #[.int .i64 0, .slice none 0 0, .slice none 0 0, .slice none 0 0] 36)) (by clear f0 f1 f2 f3 f4 fR; go_simp) ⟨hb.trans (j1.mono sz), f0, f1.keep j1, f2, f3.keep j1, f4, fR.boxA hb⟩
   ·intro d u wx h0 hd hF
    obtain ⟨hb, f0, f1, f2, f3, f4, fR⟩ := hF
    have sz := hb.size
    refine Wpv.env fun ρ hin hout hcon hfun => ?_
    have E17 := hin 17 (by kernel_rfl)
    have E105 := hin 105 (by kernel_rfl)
    clear hin hout
    have m : d 5 = true := (ResSB.upD (Or.inl (hd.get (j := 7) (by kernel_rfl))) fR)
    obtain ⟨gg, n0, a1, n1, k1, a2, n2, k2, a3, n3, k3, z0, z1, z2, z3, e1, e2, fr, bx⟩ := ResSB.preAD (hd.get (j := 7) (by kernel_rfl)) (hd.get (j := 9) (by kernel_rfl)) fR
    obtain ⟨c0, c1, c2, c3⟩ := id bx
    obtain ⟨r0, r1, r2, r3⟩ := id fr
    obtain ⟨lg, fR'⟩ := ResSB.setAD (hd.get (j := 7) (by kernel_rfl)) (hd.get (j := 9) (by kernel_rfl)) e1 e2 fR
    have y1 := E17.trans e1
    have y2 := E105.trans e2
    refine Wpv.skip (w' := set4 wx gg (.int .i64 n0) (.slice a1 n1 k1) (.slice a2 n2 k2) (.slice a3 n3 k3)) (by unfold set4; clear fR' e1 e2 E17 E105 bx fr f0 f1 f2 f3 f4 fR; go_simp) ?_
    exact ⟨set4_below hb lg _ _ _ _, f0, ArgSys.pastD m, f2, ArgLin.pastD m, f4, fR'⟩
   ·intro d u wx h0 hd hF
    obtain ⟨hb, f0, f1, f2, f3, f4, fR⟩ := hF
    have sz := hb.size
    refine Wpv.env fun ρ hin hout hcon hfun => ?_
    have E106 := hin 106 (by kernel_rfl)
    clear hin hout
    exact Wpv.value (v := u 106) (by simp only [execOp]; rw [E106]; rfl) ⟨hb, f0, f1, f2, f3, f4, (ResSB.finD (hd.get (j := 8) (by kernel_rfl)) fR)⟩
  ·intro d u wx hall hF
   obtain ⟨hb, f0, f1, f2, f3, f4, fR⟩ := hF
   have fC := ResSB.cutD fR hb (hall 5 (by decide)) (hall 9 (by decide)) (hall 10 (by decide)) (hall 11 (by decide))
   clear f0 f1 f2 f3 f4 fR
   refine hK _ _ (Met.intro (hJ _ _ ?_))
   simp only [setF, List.foldl_cons, List.foldl_nil, Act.put, List.setIfInBounds_toArray, List.set_cons_zero, List.set_cons_succ]
   repeat apply Exists.intro
   exact ⟨fC, rfl⟩
 obtain ⟨gAH, ui, uo, uh, uc, rfl, rfl, hgAH, ⟨b0, b1, b2, b3⟩, tW, bW⟩ := hcut
 obtain ⟨aoH, koH, ahH, khH, acH, kcH, rfl, rfl, rfl, rfl, loH, boH, lhH, bhH, lcH, bcH, fiH⟩ := id tW.shape
 obtain ⟨w30, hw30⟩ : ∃ x, x = wc := ⟨_, rfl⟩
 subst hw30
 have f30 : Below w29.heap.size w29 w30 := d0H.trans bW
 have b30 := b29.trans (f30.mono (by omega))
 have z30 := f30.size
 have cS030 := ck f30 cS029
 have cS130 := ck f30 cS129
 have cS230 := ck f30 cS229
 have cS330 := ck f30 cS329
 have cA030 := ck f30 cA029
 have cW030 := ck f30 cW029
 have cW130 := ck f30 cW129
 have cW230 := ck f30 cW229
 have cW330 := ck f30 cW329
 have cG030 := ck f30 cG029
 have cG130 := ck f30 cG129
 have cG230 := ck f30 cG229
 have cG330 := ck f30 cG329
 have tS30 := tS29.keep f30 (by omega)
 have tA30 := tA29.keep f30 (by omega)
 have tW30 := tW29.keep f30 (by omega)
 have tG30 := tG29.keep f30 (by omega)
 clear cS029 cS129 cS229 cS329 cA029 cW029 cW129 cW229 cW329 cG029 cG129 cG229 cG329 tS29 tA29 tW29 tG29 US UA GS0 GS1 GS2 GS3 GA0
 have b0H := b0; clear b0
 have b1H := b1; clear b1
 have b2H := b2; clear b2
 have b3H := b3; clear b3
 have lgAH : gAH < w30.heap.size := World.block_lt_of_cell? _ _ b0H
 have tH30 := tW; clear tW
 have lcS030 : w.heap.size < w30.heap.size := blt cS030
 have lcA030 : w.heap.size + 1 < w30.heap.size := blt cA030
 have lcW030 : gAW < w30.heap.size := blt cW030
 have lcG030 : w12.heap.size < w30.heap.size := blt cG030
 have lb0H : gAH < w30.heap.size := blt b0H
 go_wp2_with fail
 refine name_call fun w31 hw31 => ?_
 have b31 : Below w.heap.size w w31 := by rw [hw31]; (repeat (with_reducible first | exact bR _ _ | assumption | refine bD ?_ | refine bN ?_ _ | refine bA ?_ _ | refine bS ?_ _))
 have z31 : w30.heap.size + 0 ≤ w31.heap.size := by rw [hw31]; simp
 have e31 : Below w30.heap.size w30 w31 := by rw [hw31]; (repeat (with_reducible first | exact bR _ _ | assumption | refine bD ?_ | refine bN ?_ _ | refine bA ?_ _ | refine bS ?_ _))
 have cS031 := ck e31 cS030
 have cS131 := ck e31 cS130
 have cS231 := ck e31 cS230
 have cS331 := ck e31 cS330
 have cA031 := ck e31 cA030
 have cW031 := ck e31 cW030
 have cW131 := ck e31 cW130
 have cW231 := ck e31 cW230
 have cW331 := ck e31 cW330
 have cG031 := ck e31 cG030
 have cG131 := ck e31 cG130
 have cG231 := ck e31 cG230
 have cG331 := ck e31 cG330
 have cH031 := ck e31 b0H
 have cH131 := ck e31 b1H
 have cH231 := ck e31 b2H
 have cH331 := ck e31 b3H
 have tS31 := tS30.keep e31 (by omega)
 have tA31 := tA30.keep e31 (by omega)
 have tW31 := tW30.keep e31 (by omega)
 have tG31 := tG30.keep e31 (by omega)
 have tH31 := tH30.keep e31 (by omega)
 clear hw31 lcS030 lcA030 lcW030 lcG030 lb0H cS030 cS130 cS230 cS330 cA030 cW030 cW130 cW230 cW330 cG030 cG130 cG230 cG330 b0H b1H b2H b3H tS30 tA30 tW30 tG30 tH30
 refine (eqSys_same _ _ _ _ _ _ _ _ _ _ _ _ _ _ r _ (tH31) (tW31) (by omega) (by omega)).mono ?_; rintro e w32 ⟨rfl, f32⟩
 have b32 := b31.trans (f32.mono (by omega))
 have z32 := f32.size
 have cS032 := ck f32 cS031
 have cS132 := ck f32 cS131
 have cS232 := ck f32 cS231
 have cS332 := ck f32 cS331
 have cA032 := ck f32 cA031
 have cW032 := ck f32 cW031
 have cW132 := ck f32 cW131
 have cW232 := ck f32 cW231
 have cW332 := ck f32 cW331
 have cG032 := ck f32 cG031
 have cG132 := ck f32 cG131
 have cG232 := ck f32 cG231
 have cG332 := ck f32 cG331
 have cH032 := ck f32 cH031
 have cH132 := ck f32 cH131
 have cH232 := ck f32 cH231
 have cH332 := ck f32 cH331
 have tS32 := tS31.keep f32 (by omega)
 have tA32 := tA31.keep f32 (by omega)
 have tW32 := tW31.keep f32 (by omega)
 have tG32 := tG31.keep f32 (by omega)
 have tH32 := tH31.keep f32 (by omega)
 clear cS031 cS131 cS231 cS331 cA031 cW031 cW131 cW231 cW331 cG031 cG131 cG231 cG331 cH031 cH131 cH231 cH331 tS31 tA31 tW31 tG31 tH31
 have lcS032 : w.heap.size < w32.heap.size := blt cS032
 have lcA032 : w.heap.size + 1 < w32.heap.size := blt cA032
 have lcW032 : gAW < w32.heap.size := blt cW032
 have lcG032 : w12.heap.size < w32.heap.size := blt cG032
 have lcH032 : gAH < w32.heap.size := blt cH032
 go_wp2_with fail
 refine name_call fun w33 hw33 => ?_
 have b33 : Below w.heap.size w w33 := by rw [hw33]; (repeat (with_reducible first | exact bR _ _ | assumption | refine bD ?_ | refine bN ?_ _ | refine bA ?_ _ | refine bS ?_ _))
 have z33 : w32.heap.size + 0 ≤ w33.heap.size := by rw [hw33]; simp
 have e33 : Below w32.heap.size w32 w33 := by rw [hw33]; (repeat (with_reducible first | exact bR _ _ | assumption | refine bD ?_ | refine bN ?_ _ | refine bA ?_ _ | refine bS ?_ _))
 have cS033 := ck e33 cS032
 have cS133 := ck e33 cS132
 have cS233 := ck e33 cS232
 have cS333 := ck e33 cS332
 have cA033 := ck e33 cA032
 have cW033 := ck e33 cW032
 have cW133 := ck e33 cW132
 have cW233 := ck e33 cW232
 have cW333 := ck e33 cW332
 have cG033 := ck e33 cG032
 have cG133 := ck e33 cG132
 have cG233 := ck e33 cG232
 have cG333 := ck e33 cG332
 have cH033 := ck e33 cH032
 have cH133 := ck e33 cH132
 have cH233 := ck e33 cH232
 have cH333 := ck e33 cH332
 have tS33 := tS32.keep e33 (by omega)
 have tA33 := tA32.keep e33 (by omega)
 have tW33 := tW32.keep e33 (by omega)
 have tG33 := tG32.keep e33 (by omega)
 have tH33 := tH32.keep e33 (by omega)
 clear hw33 lcS032 lcA032 lcW032 lcG032 lcH032 cS032 cS132 cS232 cS332 cA032 cW032 cW132 cW232 cW332 cG032 cG132 cG232 cG332 cH032 cH132 cH232 cH332 tS32 tA32 tW32 tG32 tH32
 refine (heldSys_any _ _ _ _ _ _ _ r 1 _ (tG33.sys) (by omega) (by omega)).mono ?_; rintro e w34 ⟨rfl, f34⟩
 have b34 := b33.trans (f34.mono (by omega))
 have z34 := f34.size
 have cS034 := ck f34 cS033
 have cS134 := ck f34 cS133
 have cS234 := ck f34 cS233
 have cS334 := ck f34 cS333
 have cA034 := ck f34 cA033
 have cW034 := ck f34 cW033
 have cW134 := ck f34 cW133
 have cW234 := ck f34 cW233
 have cW334 := ck f34 cW333
 have cG034 := ck f34 cG033
 have cG134 := ck f34 cG133
 have cG234 := ck f34 cG233
 have cG334 := ck f34 cG333
 have cH034 := ck f34 cH033
 have cH134 := ck f34 cH133
 have cH234 := ck f34 cH233
 have cH334 := ck f34 cH333
 have tS34 := tS33.keep f34 (by omega)
 have tA34 := tA33.keep f34 (by omega)
 have tW34 := tW33.keep f34 (by omega)
 have tG34 := tG33.keep f34 (by omega)
 have tH34 := tH33.keep f34 (by omega)
 clear cS033 cS133 cS233 cS333 cA033 cW033 cW133 cW233 cW333 cG033 cG133 cG233 cG333 cH033 cH133 cH233 cH333 tS33 tA33 tW33 tG33 tH33
 go_wp2_with fail
 go_ret
 exact ⟨rfl, b34⟩
end Go.Proofs.YtcenijdaacbgpaaGreat.L
