/- FnBits: a number with no more bits has exactly its bits; other numbers satisfy nothing; whatever satisfies has its bits (written by tools/gen/gatebi.py). -/
import Derived.Test.YtcenijdaacbgpaaGateA
import Derived.Test.YtcenijdaacbgpaaGateB
import Derived.Test.YtcenijdaacbgpaaGateT
import Derived.Test.YtcenijdaacbgpaaB30
import Derived.Test.YtcenijdaacbgpaaRgnR
import Derived.Test.YtcenijdaacbgpaaB24
import Derived.Test.YtcenijdaacbgpaaB9
import Derived.Test.YtcenijdaacbgpaaB21
import Derived.BigQuiet
import Derived.Deep.Cut
import Derived.Deep.QuietTactic
namespace Go.Proofs.Ytcenijdaacbgpaa.L
open Go.RowKit Go.Proofs.Ytcenijdaacbgpaa.S
set_option linter.unusedVariables false
set_option linter.unusedSimpArgs false

theorem packW_all : ((List.range 31).all fun n => linW (varsN (tBits n)) (packL (zBits n))) = true := by kernel_rfl
theorem packW_of {n : Nat} (h : n ≤ 30) : linW (varsN (tBits n)) (packL (zBits n)) = true := List.all_eq_true.1 packW_all n (List.mem_range.2 (by omega))
theorem pow30b {n : Nat} (h : n ≤ 30) : (1 : Int) ≤ 2 ^ n ∧ (2 : Int) ^ n ≤ 1073741824 := by
  have h1 : (1 : Int) ≤ 2 ^ n := Int.pow_pos (by omega)
  have h3 : (2 : Nat) ^ n ≤ 1073741824 := Nat.pow_le_pow_right (n := 2) (by omega) (show n ≤ 30 by omega)
  have h2 := Int.ofNat_le.2 h3
  rw [Int.natCast_pow] at h2
  exact ⟨h1, h2⟩
theorem shl_oneb {n : Nat} (h : n ≤ 30) : IntKind.i64.wrap ((2 : Int) ^ min n 64) = 2 ^ n := by
  obtain ⟨h1, h2⟩ := pow30b h
  rw [Nat.min_eq_left (by omega), IntKind.wrap_i64]
  generalize (2 : Int) ^ n = t at *
  omega
theorem shr_one {x : Int} (hx : fl x) (j : Nat) : bits BinOp.and IntKind.i64 (x / 2 ^ j) 1 = x / 2 ^ j % 2 := by
  unfold fl at hx
  have h0 : 0 ≤ x / 2 ^ j := Int.ediv_nonneg hx.1 (Int.le_of_lt (Int.pow_pos (by omega)))
  have h1 : x / 2 ^ j ≤ x := Int.ediv_le_self _ hx.1
  exact bit_one h0 (by omega)
theorem bitVs_at (x : Int) {n j : Nat} (h : j < n) : (bitVs x n)[j]? = some (x / 2 ^ j % 2) := by simp [bitVs, h]
theorem bitVs_lenB (x : Int) (n : Nat) : (bitVs x n).length = n := by simp [bitVs]
set_option maxRecDepth 100000 in
set_option maxHeartbeats 12800000 in
theorem law_FnBits (a : Option Addr) (len cap : Nat) (w : World) (hr : Row w.heap.size w a len) :
    Calls Try.prog 3 #[.slice a len cap] w fun e w' => e = .returned (.bool true) ∧ Below w.heap.size w w' := by
  go_enter Try.func3, Try.ntmps3
  go_wp2_with fail
  refine (drawFAdd_any a len cap w hr).mono ?_
  rintro e w1 ⟨p, q, rfl, fp, fq, be1⟩
  have hr1 : Row w1.heap.size w1 a len := row_wide2A (hr.keep be1) be1.size
  obtain ⟨x, hx⟩ : ∃ x, x = p % 2147483647 := ⟨_, rfl⟩
  obtain ⟨y, hy⟩ : ∃ y, y = q % 2147483647 := ⟨_, rfl⟩
  have lx : fl x := by unfold fl; omega
  have ly : fl y := by unfold fl; omega
  have FA := field_any p
  have FB := field_any q
  rw [← hx] at FA
  rw [← hy] at FB
  have HFA := Lib.hid FA
  have HFB := Lib.hid fun w => FB w fq
  have HLX := Lib.hid lx
  have HLY := Lib.hid ly
  clear FA FB hx hy
  go_wp2_with fail
  refine (at_anyA a len cap 2 (by omega) w1 hr1).mono ?_; rintro e w2 ⟨q2, rfl, q20, q21, rfl⟩
  obtain ⟨k, rfl⟩ : ∃ k : Nat, q2 = k := ⟨q2.toNat, by omega⟩
  obtain ⟨n, hn⟩ : ∃ n : Nat, 1 + (k : Int) % 30 = n := ⟨1 + k % 30, by omega⟩
  have n1 : 1 ≤ n := by omega
  have n2 : n ≤ 30 := by omega
  have N1 := Lib.hid n1
  have N2 := Lib.hid n2
  go_wp2_with fail
  refine (HFA.out _ fp).mono ?_; rintro e w2 ⟨rfl, rfl⟩
  clear hn q20 q21
  go_wp2_with fail
  refine name_call fun w2 hw2 => ?_
  have e2 : Below w1.heap.size w1 w2 := by rw [hw2]; (repeat (with_reducible first | exact bR _ _ | assumption | refine bD ?_ | refine bN ?_ _ | refine bA ?_ _ | refine bS ?_ _))
  have z2 : w1.heap.size + 1 ≤ w2.heap.size := by rw [hw2]; simp
  have cx2 : w2.cell? ⟨w1.heap.size, 0, none⟩ = some (.int .i64 x) := by rw [hw2]; first | (simp; done) | go_simp
  have be2 := be1.trans (e2.mono be1.size)
  clear hw2
  have fx : Fits x := by have h := HLX.out; unfold fl at h; unfold Fits; omega
  have ti2 := ints1A fx cx2 (by omega)
  refine (inputs_any w2.heap.size _ [x] w2 ti2 (Nat.le_refl _) (by simp)).mono ?_; rintro e w3 ⟨ur, rfl, f3, tl3⟩
  have z3 := f3.size
  have be3 := be2.trans (f3.mono be2.size)
  have cx := ck f3 cx2
  have tl : LinS false 0 w3.heap.size w3 ur [v1] := tl3
  obtain ⟨al, kl, rfl, ll, lb⟩ := tl.shape
  obtain ⟨rb, ro, ua, ea, -, lrb, ca, ta⟩ := tl.at (j := 0) (by simp)
  subst ea
  obtain ⟨xa, ka, rfl, -, -⟩ := ta.shape
  rw [Nat.add_zero] at ca
  have ta' : Terms false 0 w3.heap.size w3 (.slice xa 1 ka) v1 := ta
  have ca' : w3.cell? ⟨rb, ro, none⟩ = some (.slice xa 1 ka) := ca
  clear cx2 ti2 ca ta tl tl3 ll lb
  go_wp2_with fail
  refine name_wp fun w4 hw4 => ?_
  have e4 : Below w3.heap.size w3 w4 := by rw [hw4]; (repeat (with_reducible first | exact bR _ _ | assumption | refine bD ?_ | refine bN ?_ _ | refine bA ?_ _ | refine bS ?_ _))
  have z4 : w3.heap.size + 1 ≤ w4.heap.size := by rw [hw4]; simp
  have s0 : w4.cell? ⟨w3.heap.size, 0, none⟩ = some (.int .i64 1) := by rw [hw4]; first | (simp; done) | go_simp
  have s1 : w4.cell? ⟨w3.heap.size, 1, none⟩ = some (.slice none 0 0) := by rw [hw4]; first | (simp; done) | go_simp
  have s2 : w4.cell? ⟨w3.heap.size, 2, none⟩ = some (.slice none 0 0) := by rw [hw4]; first | (simp; done) | go_simp
  have s3 : w4.cell? ⟨w3.heap.size, 3, none⟩ = some (.slice none 0 0) := by rw [hw4]; first | (simp; done) | go_simp
  have be4 := be3.trans (e4.mono be3.size)
  have d4 : Below w4.heap.size w4 w4.drew := (Below.refl _ _).drew
  have e4d : Below w3.heap.size w3 w4.drew := e4.trans (d4.mono (by omega))
  have zd4 : w4.drew.heap.size = w4.heap.size := rfl
  have F1 : Fits 1 := by unfold Fits; omega
  have s0_1 := cell_keep d4 s0
  have s1_1 := cell_keep d4 s1
  have s2_1 := cell_keep d4 s2
  have s3_1 := cell_keep d4 s3
  clear s0 s1 s2 s3
  have cx_1 := cell_keep e4d cx
  have ca'_1 := cell_keep e4d ca'
  have ta'_1 := ta'.keep e4d (by omega)
  clear cx ca' ta'
  clear hw4
  have fy : Fits y := by have h := HLY.out; unfold fl at h; unfold Fits; omega
  obtain ⟨tS, htS⟩ : ∃ t, t = tBits n := ⟨_, rfl⟩
  obtain ⟨zS, hzS⟩ : ∃ z, z = zBits n := ⟨_, rfl⟩
  obtain ⟨pS, hpS⟩ : ∃ z, z = packL (zBits n) := ⟨_, rfl⟩
  have hIs : tS = ⟨1, [], bitHs v1 n, bitCs 2 n ++ [⟨lcomb 2147483646 (packL (zBits n)) v1, constOf 1, []⟩]⟩ := by rw [htS, tBits_is n2]
  obtain ⟨hMay, hOk, hSys, hPk, hAll⟩ : mayL (sysI 1) [v1] = true ∧ bOk (bitsB (sysI 1) ⟨[], [], 0⟩ v1 n) = true ∧ sysOk tS = true ∧ packOk zS = true ∧ (∀ z ∈ zS, linW (varsN tS) z = true) := by
    have hf := bitsFacts_of n2
    unfold bitsFacts at hf
    simp only [Bool.and_eq_true] at hf
    rw [htS, hzS]
    exact ⟨hf.1.1.1.1.1, hf.1.1.1.1.2, hf.1.1.1.2, hf.1.1.2, List.all_eq_true.1 hf.2⟩
  have hpW : linW (varsN tS) pS = true := by rw [htS, hpS]; exact packW_of n2
  have hPR : packR zS = (pS, true) := by rw [hpS, ← hzS]; unfold packR; rw [hPk]
  have hI1 : tS.ins = 1 := by rw [hIs]
  have hI2 : tS.outs = [] := by rw [hIs]
  have hI3 : tS.hints.length = n := by rw [hIs]; simp [bitHs]
  have hI4 : tS.cons.length ≤ 1000 := by rw [hIs]; simp [bitCs]; omega
  have hzl : zS.length = n := by rw [hzS]; simp [zBits]
  have hm : true = (decide (1 ≤ (n : Int) ∧ (n : Int) ≤ 30) && mayL (sysI 1) [v1]) := by rw [hMay, decide_eq_true (by omega)]; rfl
  have Ho : Hid (true = (true && bOk (bitsB (sysI 1) ⟨[], [], 0⟩ v1 n))) := Lib.hid (by rw [hOk]; rfl)
  have Hr : Hid (tS = if true = true then bSys (sysI 1) (bitsB (sysI 1) ⟨[], [], 0⟩ v1 n) else sys0) := Lib.hid (by rw [if_pos rfl, htS]; rfl)
  have hzB : (bitsBK (sysI 1) ⟨[], [], 0⟩ v1 n).2 = zBits n := (bits_hs (sysI 1) v1 n (by show (1 : Int) + 1 + 0 + n ≤ 3000; omega)).2
  have Hv : Hid (zS = if (true && bOk (bitsB (sysI 1) ⟨[], [], 0⟩ v1 n)) = true then (bitsBK (sysI 1) ⟨[], [], 0⟩ v1 n).2 else []) := Lib.hid (by rw [hOk, hzS]; exact hzB.symm)
  obtain ⟨eSol, bSol⟩ := solB_bits HLX.out n2
  have t1 := told_bits HLX.out n2
  have t2 := told_pack HLX.out n2
  rw [← htS] at bSol eSol t1 t2
  rw [← hzS] at t1
  rw [← hpS] at t2
  have HFIRM := Lib.hid fun (j : Nat) (hj : j < n) (q : x < 2 ^ n) (hc : checkB tS (([1, x] ++ bitVs x n).set (2 + j) y) = true) => show y = x / 2 ^ j % 2 from bits_firm HLX.out n2 q hj (by rw [← htS]; exact hc)
  have HM := Lib.hid hm
  have HS := Lib.hid hSys
  have HI1 := Lib.hid hI1
  have HI2 := Lib.hid hI2
  have HI3 := Lib.hid hI3
  have HI4 := Lib.hid hI4
  have HZL := Lib.hid hzl
  have HALL := Lib.hid hAll
  have HPW := Lib.hid hpW
  have HPR := Lib.hid hPR
  have HSOL := Lib.hid eSol
  have HT1 := Lib.hid t1
  have HT2 := Lib.hid t2
  obtain ⟨B, hB⟩ : ∃ B, decide (x < 2 ^ n) = B := ⟨_, rfl⟩
  rw [hB] at bSol
  have HB := Lib.hid bSol
  have HB2 := Lib.hid hB
  clear htS hzS hpS hIs hMay hOk hSys hPk hAll hpW hPR hI1 hI2 hI3 hI4 hzl hm hzB eSol t1 t2 bSol hB n1 n2
  go_cut [9, 10, 11] (fun s9 s10 s11 wx => CutSR w4.drew tS zS true s9 s10 s11 wx)
  case first =>
    rename_i J K' hJ hK
    refine wp_region_drawn [9, 10, 11, 39, 40, 41, 42, 43, 44, 45, 46, 47, 48] (fun d u wx => Below w4.drew.heap.size w4.drew wx ∧ (d 0 = true → u 40 = .agg #[.int .i64 1, .slice none 0 0, .slice none 0 0, .slice none 0 0]) ∧ (d 1 = true → u 41 = .slice (some ⟨rb, ro, none⟩) 1 kl) ∧ (d 2 = true → u 42 = .pointer (some ⟨rb, ro, none⟩)) ∧ (d 3 = true → u 43 = .agg #[.slice xa 1 ka]) ∧ (d 4 = true → u 44 = .int .i64 n) ∧ ResSR w4.drew tS zS true (d 5) (d 6) (d 7) (d 8) (d 9) (d 10) (d 11) (d 12) (d 13) (u 45) (u 39) (u 46) (u 47) (u 48) (u 9) (u 10) (u 11) wx) (by kernel_rfl) (by kernel_rfl) (by kernel_rfl) ?_ ?_ ?_
    · intro u; exact ⟨Below.refl _ _, vac rfl, vac rfl, vac rfl, vac rfl, vac rfl, ResSR.start⟩
    · refine ⟨?_, ?_, ?_, ?_, ?_, ?_, ?_, ?_, ?_, ?_, ?_, ?_, ?_, ?_, trivial⟩
      · intro d u wx h0 hd hF
        obtain ⟨hb, f0, f1, f2, f3, f4, fR⟩ := hF
        have sz := hb.size
        refine Wpv.env fun ρ hin hout hcon hfun => ?_
        have E2 : ρ (.tmp 7) = .pointer (some ⟨w3.heap.size, 0, none⟩) := (hout 7 (by kernel_rfl)).trans (by kernel_rfl)
        clear hin hout
        have c0 := cell_keep hb s0_1
        have c1 := cell_keep hb s1_1
        have c2 := cell_keep hb s2_1
        have c3 := cell_keep hb s3_1
        refine Wpv.value (v := .agg #[.int .i64 1, .slice none 0 0, .slice none 0 0, .slice none 0 0]) (w' := wx) ?_ ⟨hb, fun _ => rfl, f1, f2, f3, f4, fR⟩
        clear f0 f1 f2 f3 f4 fR
        simp only [execOp]; rw [E2]; go_simp
      · intro d u wx h0 hd hF
        obtain ⟨hb, f0, f1, f2, f3, f4, fR⟩ := hF
        have sz := hb.size
        refine Wpv.env fun ρ hin hout hcon hfun => ?_
        have E2 : ρ (.tmp 8) = .slice (some ⟨rb, ro, none⟩) 1 kl := (hout 8 (by kernel_rfl)).trans (by kernel_rfl)
        clear hin hout
        exact Wpv.value (v := .slice (some ⟨rb, ro, none⟩) 1 kl) (by simp only [execOp]; rw [E2]; rfl) ⟨hb, f0, fun _ => rfl, f2, f3, f4, fR⟩
      · intro d u wx h0 hd hF
        obtain ⟨hb, f0, f1, f2, f3, f4, fR⟩ := hF
        have sz := hb.size
        refine Wpv.env fun ρ hin hout hcon hfun => ?_
        have E2 := (hin 41 (by kernel_rfl)).trans (f1 (hd.get (j := 1) (by kernel_rfl)))
        clear hin hout
        refine Wpv.value (v := .pointer (some ⟨rb, ro, none⟩)) (w' := wx) ?_ ⟨hb, f0, f1, fun _ => rfl, f3, f4, fR⟩
        clear f0 f1 f2 f3 f4 fR
        go_simp
      · intro d u wx h0 hd hF
        obtain ⟨hb, f0, f1, f2, f3, f4, fR⟩ := hF
        have sz := hb.size
        refine Wpv.env fun ρ hin hout hcon hfun => ?_
        have E2 := (hin 42 (by kernel_rfl)).trans (f2 (hd.get (j := 2) (by kernel_rfl)))
        clear hin hout
        have c0 := cell_keep hb ca'_1
        refine Wpv.value (v := .agg #[.slice xa 1 ka]) (w' := wx) ?_ ⟨hb, f0, f1, f2, fun _ => rfl, f4, fR⟩
        clear f0 f1 f2 f3 f4 fR
        go_simp
      · intro d u wx h0 hd hF
        obtain ⟨hb, f0, f1, f2, f3, f4, fR⟩ := hF
        have sz := hb.size
        refine Wpv.env fun ρ hin hout hcon hfun => ?_
        have E2 : ρ (.tmp 5) = .int .i64 n := (hout 5 (by kernel_rfl)).trans (by kernel_rfl)
        clear hin hout
        exact Wpv.value (v := .int .i64 n) (by simp only [execOp]; rw [E2]; rfl) ⟨hb, f0, f1, f2, f3, fun _ => rfl, fR⟩
      · intro d u wx h0 hd hF
        obtain ⟨hb, f0, f1, f2, f3, f4, fR⟩ := hF
        have sz := hb.size
        refine Wpv.env fun ρ hin hout hcon hfun => ?_
        have A0 := (hin 40 (by kernel_rfl)).trans (f0 (hd.get (j := 0) (by kernel_rfl)))
        have A1 := (hin 43 (by kernel_rfl)).trans (f3 (hd.get (j := 3) (by kernel_rfl)))
        have A2 := (hin 44 (by kernel_rfl)).trans (f4 (hd.get (j := 4) (by kernel_rfl)))
        clear hin hout
        rw [h0] at fR
        refine Wpv.enter (f := 10) (args := #[.agg #[.int .i64 1, .slice none 0 0, .slice none 0 0, .slice none 0 0], .agg #[.slice xa 1 ka], .int .i64 n]) (w' := wx) (by clear f0 f1 f2 f3 f4 fR; go_simp) (addBits_impl false 0 0 _ _ _ _ (sysI 1) false 0 w3.heap.size _ v1 n wx (sysI_R 1 F1 wx) (Nat.zero_le _) (sysI_small 1) (ta'_1.keep hb (by omega)) (by omega) (by simp [v1]) n (fun _ => ⟨rfl, N2.out⟩) true HM.out true tS zS Ho Hr Hv) ?_
        intro e' w' hq
        obtain ⟨uu, hu, j1, hr⟩ := ResSR.main fR hb hq
        exact ⟨uu, hu, ⟨hb.trans (j1.mono sz), f0, f1, f2, f3, f4, hr⟩⟩
      · intro d u wx h0 hd hF
        obtain ⟨hb, f0, f1, f2, f3, f4, fR⟩ := hF
        have sz := hb.size
        refine Wpv.env fun ρ hin hout hcon hfun => ?_
        have E1 := hin 45 (by kernel_rfl)
        clear hin hout
        exact Wpv.value (v := u 45) (by simp only [execOp]; rw [E1]; rfl) ⟨hb, f0, f1, f2, f3, f4, (ResSR.moveD (hd.get (j := 5) (by kernel_rfl)) fR)⟩
      · intro d u wx h0 hd hF
        obtain ⟨hb, f0, f1, f2, f3, f4, fR⟩ := hF
        have sz := hb.size
        refine Wpv.env fun ρ hin hout hcon hfun => ?_
        have E1 := hin 39 (by kernel_rfl)
        clear hin hout
        have hm : d 6 = true := hd.get (j := 6) (by kernel_rfl)
        obtain ⟨x, y, b, e⟩ := ResSR.tupD hm fR
        have e1 := E1.trans e
        refine Wpv.value (v := x) (w' := wx) (by clear e E1 f0 f1 f2 f3 f4 fR; go_simp) ⟨hb, f0, f1, f2, f3, f4, (ResSR.ex0D hm e fR)⟩
      · intro d u wx h0 hd hF
        obtain ⟨hb, f0, f1, f2, f3, f4, fR⟩ := hF
        have sz := hb.size
        refine Wpv.env fun ρ hin hout hcon hfun => ?_
        have E1 := hin 39 (by kernel_rfl)
        clear hin hout
        have hm : d 6 = true := hd.get (j := 6) (by kernel_rfl)
        obtain ⟨x, y, b, e⟩ := ResSR.tupD hm fR
        have e1 := E1.trans e
        refine Wpv.value (v := y) (w' := wx) (by clear e E1 f0 f1 f2 f3 f4 fR; go_simp) ⟨hb, f0, f1, f2, f3, f4, (ResSR.ex1D hm e fR)⟩
      · intro d u wx h0 hd hF
        obtain ⟨hb, f0, f1, f2, f3, f4, fR⟩ := hF
        have sz := hb.size
        refine Wpv.env fun ρ hin hout hcon hfun => ?_
        have E1 := hin 39 (by kernel_rfl)
        clear hin hout
        have hm : d 6 = true := hd.get (j := 6) (by kernel_rfl)
        obtain ⟨x, y, b, e⟩ := ResSR.tupD hm fR
        have e1 := E1.trans e
        refine Wpv.value (v := b) (w' := wx) (by clear e E1 f0 f1 f2 f3 f4 fR; go_simp) ⟨hb, f0, f1, f2, f3, f4, (ResSR.ex2D hm e fR)⟩
      · intro d u wx h0 hd hF
        obtain ⟨hb, f0, f1, f2, f3, f4, fR⟩ := hF
        have sz := hb.size
        refine Wpv.env fun ρ hin hout hcon hfun => ?_
        clear hin hout
        rw [h0] at fR
        have j1 : Below wx.heap.size wx (wx.alloc (.cells #[.int .i64 0, .slice none 0 0, .slice none 0 0, .slice none 0 0] 32)) := balloc (Nat.le_refl _) (Below.refl _ _) _
        refine Wpv.value (v := .pointer (some ⟨wx.heap.size, 0, none⟩)) (w' := wx.alloc (.cells #[.int .i64 0, .slice none 0 0, .slice none 0 0, .slice none 0 0] 32)) (by clear f0 f1 f2 f3 f4 fR; go_simp) ⟨hb.trans (j1.mono sz), f0, f1, f2, f3, f4, fR.boxA hb⟩
      · intro d u wx h0 hd hF
        obtain ⟨hb, f0, f1, f2, f3, f4, fR⟩ := hF
        have sz := hb.size
        refine Wpv.env fun ρ hin hout hcon hfun => ?_
        have Ea := hin 9 (by kernel_rfl)
        have Eb := hin 46 (by kernel_rfl)
        clear hin hout
        obtain ⟨gg, n0, a1, n1, k1, a2, n2, k2, a3, n3, k3, z0, z1, z2, z3, e1, e2, fr, bx⟩ := ResSR.preAD (hd.get (j := 7) (by kernel_rfl)) (hd.get (j := 10) (by kernel_rfl)) fR
        obtain ⟨c0, c1, c2, c3⟩ := id bx
        obtain ⟨r0, r1, r2, r3⟩ := id fr
        obtain ⟨lg, fR'⟩ := ResSR.setAD (hd.get (j := 7) (by kernel_rfl)) (hd.get (j := 10) (by kernel_rfl)) e1 e2 fR
        have y1 := Ea.trans e1
        have y2 := Eb.trans e2
        refine Wpv.skip (w' := set4 wx gg (.int .i64 n0) (.slice a1 n1 k1) (.slice a2 n2 k2) (.slice a3 n3 k3)) (by unfold set4; clear fR' e1 e2 Ea Eb bx fr f0 f1 f2 f3 f4 fR; go_simp) ?_
        exact ⟨set4_below hb lg _ _ _ _, f0, f1, f2, f3, f4, fR'⟩
      · intro d u wx h0 hd hF
        obtain ⟨hb, f0, f1, f2, f3, f4, fR⟩ := hF
        have sz := hb.size
        refine Wpv.env fun ρ hin hout hcon hfun => ?_
        have E1 := hin 47 (by kernel_rfl)
        clear hin hout
        exact Wpv.value (v := u 47) (by simp only [execOp]; rw [E1]; rfl) ⟨hb, f0, f1, f2, f3, f4, (ResSR.rowD (hd.get (j := 8) (by kernel_rfl)) fR)⟩
      · intro d u wx h0 hd hF
        obtain ⟨hb, f0, f1, f2, f3, f4, fR⟩ := hF
        have sz := hb.size
        refine Wpv.env fun ρ hin hout hcon hfun => ?_
        have E1 := hin 48 (by kernel_rfl)
        clear hin hout
        exact Wpv.value (v := u 48) (by simp only [execOp]; rw [E1]; rfl) ⟨hb, f0, f1, f2, f3, f4, (ResSR.finD (hd.get (j := 9) (by kernel_rfl)) fR)⟩
    · intro d u wx hall hF
      obtain ⟨hb, f0, f1, f2, f3, f4, fR⟩ := hF
      have fC := ResSR.cutD fR hb (hall 5 (by decide)) (hall 10 (by decide)) (hall 11 (by decide)) (hall 12 (by decide)) (hall 13 (by decide))
      clear f0 f1 f2 f3 f4 fR
      refine hK _ _ (Met.intro (hJ _ _ ?_))
      simp only [setF, List.foldl_cons, List.foldl_nil, Act.put, List.setIfInBounds_toArray, List.set_cons_zero, List.set_cons_succ]
      repeat apply Exists.intro
      exact ⟨fC, rfl⟩
  obtain ⟨gT, uiT, uoT, uhT, ucT, uvT, rfl, rfl, rfl, hgT, ⟨b0T, b1T, b2T, b3T⟩, tT, tzT, BT⟩ := hcut
  obtain ⟨aoT, koT, ahT, khT, acT, kcT, rfl, rfl, rfl, rfl, -⟩ := id tT.shape
  obtain ⟨azT, kzT, rfl, -, -⟩ := id tzT.shape
  obtain ⟨w5, hw5⟩ : ∃ x, x = wc := ⟨_, rfl⟩
  subst hw5
  have z5 := BT.size
  have be5 : Below w.heap.size w w5 := be4.trans ((d4.trans BT).mono be4.size)
  have s0_2 := cell_keep BT s0_1
  have s1_2 := cell_keep BT s1_1
  have s2_2 := cell_keep BT s2_1
  have s3_2 := cell_keep BT s3_1
  have cx_2 := cell_keep BT cx_1
  have ca_2 := cell_keep BT ca'_1
  have ta_2 := ta'_1.keep BT (by omega)
  clear s0_1 s1_1 s2_1 s3_1 cx_1 ca'_1 ta'_1
  clear Ho Hr Hv
  have lgT : gT < w5.heap.size := World.block_lt_of_cell? _ _ b0T
  have GT := Lib.hid (grown_yes 0 _ _ _ _ w5.heap.size _ _ _ _ (sysI 1) tS w5 (sysI_R 1 F1 _) (Nat.zero_le _) tT (by omega) sysI1_sysA HS.out HI1.out HI2.out (H := tS.hints) rfl (C := tS.cons) rfl)
  have hne : (((zS.length : Nat) : Int) != (n : Int)) = false := by rw [HZL.out]; simp
  go_wp2_with fail
  refine (GT.out).mono ?_; rintro e w6 ⟨rfl, f6⟩
  have z6 := f6.size
  have be6 := be5.trans (f6.mono be5.size)
  have cx_3 := cell_keep f6 cx_2
  have b0T_3 := cell_keep f6 b0T
  have b1T_3 := cell_keep f6 b1T
  have b2T_3 := cell_keep f6 b2T
  have b3T_3 := cell_keep f6 b3T
  have tT_3 := tT.keep f6 (by omega)
  have tzT_3 := tzT.keep f6 (by omega)
  clear cx_2 b0T b1T b2T b3T tT tzT
  clear GT hne F1
  have tx6 := ints1A fx cx_3 (by omega)
  obtain ⟨Y, hY⟩ : ∃ Y, (if x < 2 ^ n then bitVs x n else []) = Y := ⟨_, rfl⟩
  have TD := told_any false 0 w5.heap.size _ _ _ _ tS w6.heap.size _ [x] false 0 w5.heap.size _ zS w6 tT_3 (by omega) tx6 (Nat.le_refl _) tzT_3 (by omega) (by simp) (by have := HI3.out; have := N2.out; omega) (by rw [HI2.out]; simp) (by have := HI4.out; omega) (by have := HZL.out; have := N2.out; omega) (fun _ => HALL.out) B HB.out Y (HT1.out.trans hY)
  have HTD := Lib.hid TD
  have HY := Lib.hid hY
  clear TD hY tx6
  go_wp2_with fail
  refine (HTD.out).mono ?_; rintro e w7 ⟨u7, rfl, f7, n7⟩
  clear HTD
  have z7 := f7.size
  have be7 := be6.trans (f7.mono be6.size)
  have cx_4 := cell_keep f7 cx_3
  have b0T_4 := cell_keep f7 b0T_3
  have b1T_4 := cell_keep f7 b1T_3
  have b2T_4 := cell_keep f7 b2T_3
  have b3T_4 := cell_keep f7 b3T_3
  have tT_4 := tT_3.keep f7 (by omega)
  have tzT_4 := tzT_3.keep f7 (by omega)
  clear cx_3 b0T_3 b1T_3 b2T_3 b3T_3 tT_3 tzT_3
  obtain ⟨y7, c7, rfl, -, -⟩ := n7.shape
  obtain ⟨p1, p2⟩ := pow30b N2.out
  have hB := HB2.out
  have hsh := shl_oneb N2.out
  have bb : (B != B) = false := by simp
  have cX := cx_4
  go_wp2_with fail
  go_quiet (fail)
  generalize hq : World.drewN w7 _ = w8
  have f8 : Below w7.heap.size w7 w8 := by rw [← hq]; (repeat (first | with_reducible exact Below.refl _ _ | with_reducible assumption | with_reducible refine Below.drew ?_ | with_reducible refine bdrewN ?_ _ | ((with_reducible refine balloc ?_ ?_ _); (focus (first | with_reducible exact Nat.le_refl _ | (simp; done) | omega | (simp; omega) | exact Nat.le_refl _))) | ((with_reducible refine bset ?_ ?_ _); (focus (first | with_reducible exact Nat.le_refl _ | (simp; done) | omega | (simp; omega) | exact Nat.le_refl _)))))
  have z8 := f8.size
  have be8 := be7.trans (f8.mono be7.size)
  have n8 := n7.keep f8 (Nat.le_refl _)
  clear hq cX n7 hsh hB p1 p2 bb
  have cx_5 := cell_keep f8 cx_4
  have b0T_5 := cell_keep f8 b0T_4
  have b1T_5 := cell_keep f8 b1T_4
  have b2T_5 := cell_keep f8 b2T_4
  have b3T_5 := cell_keep f8 b3T_4
  have tT_5 := tT_4.keep f8 (by omega)
  have tzT_5 := tzT_4.keep f8 (by omega)
  clear cx_4 b0T_4 b1T_4 b2T_4 b3T_4 tT_4 tzT_4
  cases B
  case false =>
    have eY : Y = [] := by rw [← HY.out, if_neg (of_decide_eq_false HB2.out)]
    subst eY
    go_wp2_with fail
    go_loopw [14] (fun i wr => i = .int .i64 0 ∧ wr = w8) (fun i _ => 0)
    case atStart => exact ⟨rfl, rfl⟩
    case round =>
      obtain ⟨rfl, rfl⟩ := hrel
      go_wp2_with fail
      have bec := be8
      have zc := bec.size
      have PK := pack_impl false 0 w5.heap.size _ zS wr tzT_5 (by omega) (by have := HZL.out; have := N2.out; omega)
      rw [HPR.out] at PK
      have HPK := Lib.hid PK
      clear PK n8 HPR HALL
      skip
      go_wp2_with fail
      refine (HPK.out).mono ?_; rintro e w9 ⟨u9, rfl, f9, n9⟩
      clear HPK
      have z9 := f9.size
      have be9 := bec.trans (f9.mono bec.size)
      have cx_6 := cell_keep f9 cx_5
      have b0T_6 := cell_keep f9 b0T_5
      have b1T_6 := cell_keep f9 b1T_5
      have b2T_6 := cell_keep f9 b2T_5
      have b3T_6 := cell_keep f9 b3T_5
      have tT_6 := tT_5.keep f9 (by omega)
      have tzT_6 := tzT_5.keep f9 (by omega)
      clear cx_5 b0T_5 b1T_5 b2T_5 b3T_5 tT_5 tzT_5
      have n9' : Terms false 0 w9.heap.size w9 u9 pS := (n9.unown).mono (Nat.zero_le _) (Nat.le_refl _)
      obtain ⟨a9, c9, rfl, -, -⟩ := n9'.shape
      clear n9
      have lT9 : gT < w9.heap.size := World.block_lt_of_cell? _ _ b0T_6
      go_wp2_with fail
      refine name_call fun y10 hy10 => ?_
      have ey10 : Below w9.heap.size w9 y10 := by rw [hy10]; (repeat (with_reducible first | exact bR _ _ | assumption | refine bD ?_ | refine bN ?_ _ | refine bA ?_ _ | refine bS ?_ _))
      have zy10 : w9.heap.size + 2 ≤ y10.heap.size := by rw [hy10]; simp
      have cr10 : y10.cell? ⟨w9.heap.size + 1, 0, none⟩ = some (.slice a9 pS.length c9) := by rw [hy10]; first | (simp; done) | go_simp
      clear hy10
      have by10 := be9.trans (ey10.mono be9.size)
      have cx_7 := cell_keep ey10 cx_6
      have b0T_7 := cell_keep ey10 b0T_6
      have b1T_7 := cell_keep ey10 b1T_6
      have b2T_7 := cell_keep ey10 b2T_6
      have b3T_7 := cell_keep ey10 b3T_6
      have tT_7 := tT_6.keep ey10 (by omega)
      have tzT_7 := tzT_6.keep ey10 (by omega)
      have n9_7 := n9'.keep ey10 (by omega)
      clear cx_6 b0T_6 b1T_6 b2T_6 b3T_6 tT_6 tzT_6 n9'
      have tx10 := ints1A fx cx_7 (by omega)
      have tl10 := lin1A n9_7 (by omega) cr10 (by omega)
      have eT0 : (if x < 2 ^ n then [x] else ([] : List Int)) = [] := by first | exact if_pos (of_decide_eq_true HB2.out) | exact if_neg (of_decide_eq_false HB2.out)
      have TD2 := told_any false 0 w5.heap.size _ _ _ _ tS y10.heap.size _ [x] false 0 y10.heap.size _ [pS] y10 tT_7 (by omega) tx10 (Nat.le_refl _) tl10 (Nat.le_refl _) (by simp) (by have := HI3.out; have := N2.out; omega) (by rw [HI2.out]; simp) (by have := HI4.out; omega) (by simp) (fun _ z hz => by rw [List.mem_singleton] at hz; rw [hz]; exact HPW.out) false HB.out [] (HT2.out.trans eT0)
      have HTD2 := Lib.hid TD2
      clear TD2 tx10 tl10 cr10 eT0
      refine (HTD2.out).mono ?_; rintro e w11 ⟨u11, rfl, f11, n11⟩
      clear HTD2
      have z11 := f11.size
      have be11 := by10.trans (f11.mono by10.size)
      have cx_8 := cell_keep f11 cx_7
      have b0T_8 := cell_keep f11 b0T_7
      have b1T_8 := cell_keep f11 b1T_7
      have b2T_8 := cell_keep f11 b2T_7
      have b3T_8 := cell_keep f11 b3T_7
      have tT_8 := tT_7.keep f11 (by omega)
      have tzT_8 := tzT_7.keep f11 (by omega)
      have n9_8 := n9_7.keep f11 (by omega)
      clear cx_7 b0T_7 b1T_7 b2T_7 b3T_7 tT_7 tzT_7 n9_7
      obtain ⟨y11, c11, rfl, -, -⟩ := n11.shape
      clear n11
      go_wp2_with fail
      go_quiet (fail)
      go_wp2_with fail
      go_ret
      exact ⟨rfl, by (repeat (first | with_reducible exact Below.refl _ _ | with_reducible assumption | with_reducible refine Below.drew ?_ | with_reducible refine bdrewN ?_ _ | ((with_reducible refine balloc ?_ ?_ _); (focus (first | with_reducible exact Nat.le_refl _ | (simp; done) | omega | (simp; omega) | exact Nat.le_refl _))) | ((with_reducible refine bset ?_ ?_ _); (focus (first | with_reducible exact Nat.le_refl _ | (simp; done) | omega | (simp; omega) | exact Nat.le_refl _)))))⟩
  case true =>
    have hq : x < 2 ^ n := of_decide_eq_true HB2.out
    have eY : Y = bitVs x n := by rw [← HY.out, if_pos hq]
    have eYl : Y.length = n := by rw [eY]; exact bitVs_lenB x n
    have HYA := Lib.hid fun (j : Nat) (hj : j < n) => show Y[j]? = some (x / 2 ^ j % 2) from by rw [eY]; exact bitVs_at x hj
    have HYL := Lib.hid eYl
    have HQ := Lib.hid hq
    clear eY hq eYl
    go_wp2_with fail
    go_loopw [14] (fun i wr => ∃ j : Nat, j ≤ n ∧ i = .int .i64 j ∧ Below w8.heap.size w8 wr) (fun i _ => n - (intOf i).toNat)
    case atStart => exact ⟨0, Nat.zero_le _, rfl, Below.refl _ _⟩
    case round =>
      obtain ⟨j, hj, rfl, be⟩ := hrel
      have zr := be.size
      by_cases hlt : j < n
      · have hdec : decide ((j : Int) < ((Y.length : Nat) : Int)) = true := decide_eq_true (by have := HYL.out; omega)
        obtain ⟨b, off, yv, rfl, cj, ej, -⟩ := (n8.keep be z8).at (k := j) (by have := HYL.out; omega)
        have ey : yv = x / 2 ^ j % 2 := by have := HYA.out j hlt; rw [ej] at this; exact Option.some.inj this
        have hso := shr_one HLX.out j
        rw [← ey] at hso
        have hso' : bits BinOp.and IntKind.i64 (x / 2 ^ min j 64) 1 = yv := by rw [Nat.min_eq_left (by have := N2.out; omega)]; exact hso
        have cX := cell_keep be cx_5
        have lX : 0 ≤ x := by have := HLX.out; unfold fl at this; omega
        have hyy : (yv != yv) = false := by simp
        have hjl : j < Y.length := by have := HYL.out; omega
        have hj30 : (j : Int) + 1 ≤ 31 := by have := N2.out; omega
        clear ej ey
        go_wp2_with fail
        go_quiet (fail)
        go_wp2_with fail
        generalize hq : World.drewN wr _ = wq
        have bq : Below wr.heap.size wr wq := by rw [← hq]; (repeat (first | with_reducible exact Below.refl _ _ | with_reducible assumption | with_reducible refine Below.drew ?_ | with_reducible refine bdrewN ?_ _ | ((with_reducible refine balloc ?_ ?_ _); (focus (first | with_reducible exact Nat.le_refl _ | (simp; done) | omega | (simp; omega) | exact Nat.le_refl _))) | ((with_reducible refine bset ?_ ?_ _); (focus (first | with_reducible exact Nat.le_refl _ | (simp; done) | omega | (simp; omega) | exact Nat.le_refl _)))))
        clear hq cX cj
        go_roundw
        case rel => exact ⟨j + 1, hlt, by go_num, be.trans (bq.mono zr)⟩
        case measure => simp [intOf]; omega
      obtain rfl : n = j := by omega
      have hdec : decide ((n : Int) < ((Y.length : Nat) : Int)) = false := decide_eq_false (by have := HYL.out; omega)
      have cx_6 := cell_keep be cx_5
      have b0T_6 := cell_keep be b0T_5
      have b1T_6 := cell_keep be b1T_5
      have b2T_6 := cell_keep be b2T_5
      have b3T_6 := cell_keep be b3T_5
      have tT_6 := tT_5.keep be (by omega)
      have tzT_6 := tzT_5.keep be (by omega)
      clear cx_5 b0T_5 b1T_5 b2T_5 b3T_5 tT_5 tzT_5
      have bec := be8.trans (be.mono be8.size)
      have zc := bec.size
      have PK := pack_impl false 0 w5.heap.size _ zS wr tzT_6 (by omega) (by have := HZL.out; have := N2.out; omega)
      rw [HPR.out] at PK
      have HPK := Lib.hid PK
      clear PK n8 HPR HALL
      have hnl : Y.length ≤ n := by have := HYL.out; omega
      clear HYA HYL
      go_wp2_with fail
      refine (HPK.out).mono ?_; rintro e w9 ⟨u9, rfl, f9, n9⟩
      clear HPK
      have z9 := f9.size
      have be9 := bec.trans (f9.mono bec.size)
      have cx_7 := cell_keep f9 cx_6
      have b0T_7 := cell_keep f9 b0T_6
      have b1T_7 := cell_keep f9 b1T_6
      have b2T_7 := cell_keep f9 b2T_6
      have b3T_7 := cell_keep f9 b3T_6
      have tT_7 := tT_6.keep f9 (by omega)
      have tzT_7 := tzT_6.keep f9 (by omega)
      clear cx_6 b0T_6 b1T_6 b2T_6 b3T_6 tT_6 tzT_6
      have n9' : Terms false 0 w9.heap.size w9 u9 pS := (n9.unown).mono (Nat.zero_le _) (Nat.le_refl _)
      obtain ⟨a9, c9, rfl, -, -⟩ := n9'.shape
      clear n9
      have lT9 : gT < w9.heap.size := World.block_lt_of_cell? _ _ b0T_7
      go_wp2_with fail
      refine name_call fun y10 hy10 => ?_
      have ey10 : Below w9.heap.size w9 y10 := by rw [hy10]; (repeat (with_reducible first | exact bR _ _ | assumption | refine bD ?_ | refine bN ?_ _ | refine bA ?_ _ | refine bS ?_ _))
      have zy10 : w9.heap.size + 2 ≤ y10.heap.size := by rw [hy10]; simp
      have cr10 : y10.cell? ⟨w9.heap.size + 1, 0, none⟩ = some (.slice a9 pS.length c9) := by rw [hy10]; first | (simp; done) | go_simp
      clear hy10
      have by10 := be9.trans (ey10.mono be9.size)
      have cx_8 := cell_keep ey10 cx_7
      have b0T_8 := cell_keep ey10 b0T_7
      have b1T_8 := cell_keep ey10 b1T_7
      have b2T_8 := cell_keep ey10 b2T_7
      have b3T_8 := cell_keep ey10 b3T_7
      have tT_8 := tT_7.keep ey10 (by omega)
      have tzT_8 := tzT_7.keep ey10 (by omega)
      have n9_8 := n9'.keep ey10 (by omega)
      clear cx_7 b0T_7 b1T_7 b2T_7 b3T_7 tT_7 tzT_7 n9'
      have tx10 := ints1A fx cx_8 (by omega)
      have tl10 := lin1A n9_8 (by omega) cr10 (by omega)
      have eT0 : (if x < 2 ^ n then [x] else ([] : List Int)) = [x] := by first | exact if_pos (of_decide_eq_true HB2.out) | exact if_neg (of_decide_eq_false HB2.out)
      have TD2 := told_any false 0 w5.heap.size _ _ _ _ tS y10.heap.size _ [x] false 0 y10.heap.size _ [pS] y10 tT_8 (by omega) tx10 (Nat.le_refl _) tl10 (Nat.le_refl _) (by simp) (by have := HI3.out; have := N2.out; omega) (by rw [HI2.out]; simp) (by have := HI4.out; omega) (by simp) (fun _ z hz => by rw [List.mem_singleton] at hz; rw [hz]; exact HPW.out) true HB.out [x] (HT2.out.trans eT0)
      have HTD2 := Lib.hid TD2
      clear TD2 tx10 tl10 cr10 eT0
      refine (HTD2.out).mono ?_; rintro e w11 ⟨u11, rfl, f11, n11⟩
      clear HTD2
      have z11 := f11.size
      have be11 := by10.trans (f11.mono by10.size)
      have cx_9 := cell_keep f11 cx_8
      have b0T_9 := cell_keep f11 b0T_8
      have b1T_9 := cell_keep f11 b1T_8
      have b2T_9 := cell_keep f11 b2T_8
      have b3T_9 := cell_keep f11 b3T_8
      have tT_9 := tT_8.keep f11 (by omega)
      have tzT_9 := tzT_8.keep f11 (by omega)
      have n9_9 := n9_8.keep f11 (by omega)
      clear cx_8 b0T_8 b1T_8 b2T_8 b3T_8 tT_8 tzT_8 n9_8
      obtain ⟨y11, c11, rfl, -, -⟩ := n11.shape
      obtain ⟨rbq, roq, vvq, rfl, cv11, ev11, -⟩ := n11.at (k := 0) (by simp)
      simp only [List.getElem?_cons_zero, Option.some.injEq] at ev11
      subst ev11
      rw [Nat.add_zero] at cv11
      have xx : (x != x) = false := by simp
      have hh0 : ¬ tS.hints = [] := by
        intro h
        have h1 := HI3.out
        rw [h] at h1
        have := N1.out
        simp at h1
        omega
      have hh1 : ¬ tS.hints.length = 0 := by have := HI3.out; have := N1.out; omega
      have hh2 : (((tS.hints.length : Nat) : Int) == 0) = false := by simp [hh0]
      have cX := cx_9
      clear n11
      go_wp2_with fail
      go_quiet (fail)
      go_wp2_with fail
      generalize hq : World.drewN w11 _ = w12
      have f12 : Below w11.heap.size w11 w12 := by rw [← hq]; (repeat (first | with_reducible exact Below.refl _ _ | with_reducible assumption | with_reducible refine Below.drew ?_ | with_reducible refine bdrewN ?_ _ | ((with_reducible refine balloc ?_ ?_ _); (focus (first | with_reducible exact Nat.le_refl _ | (simp; done) | omega | (simp; omega) | exact Nat.le_refl _))) | ((with_reducible refine bset ?_ ?_ _); (focus (first | with_reducible exact Nat.le_refl _ | (simp; done) | omega | (simp; omega) | exact Nat.le_refl _)))))
      have z12 := f12.size
      have be12 := be11.trans (f12.mono be11.size)
      clear hq cX xx hh0 hh1 hh2
      have cx_10 := cell_keep f12 cx_9
      have b0T_10 := cell_keep f12 b0T_9
      have b1T_10 := cell_keep f12 b1T_9
      have b2T_10 := cell_keep f12 b2T_9
      have b3T_10 := cell_keep f12 b3T_9
      have tT_10 := tT_9.keep f12 (by omega)
      clear cx_9 b0T_9 b1T_9 b2T_9 b3T_9 tT_9
      obtain ⟨WS, hWS⟩ : ∃ W, solL tS [x] = W := ⟨_, rfl⟩
      have eWS : WS = [1, x] ++ bitVs x n := by rw [← hWS]; unfold solL; rw [if_pos HB.out, HSOL.out]
      have eWL : WS.length = n + 2 := by rw [eWS, List.length_append, bitVs_lenB]; simp; omega
      have SP := solve_spec false 0 w5.heap.size _ _ _ _ tS w12.heap.size _ [x] w12 tT_10 (by omega) (ints1A fx cx_10 (by omega)) (Nat.le_refl _) (by simp) (by have := HI3.out; have := N2.out; omega) (by rw [HI2.out]; simp) (by have := HI4.out; omega)
      rw [HB.out, hWS] at SP
      have HSP := Lib.hid SP
      have HWE := Lib.hid eWS
      have HWL := Lib.hid eWL
      clear SP hWS eWS eWL
      refine (HSP.out).mono ?_; rintro e w13 ⟨u13, rfl, f13, n13⟩
      clear HSP
      have z13 := f13.size
      have be13 := be12.trans (f13.mono be12.size)
      have hr13 : Row w13.heap.size w13 a len := row_wide2A (hr.keep be13) be13.size
      obtain ⟨aw, cw, rfl, lw, bw⟩ := n13.shape
      go_wp2_with fail
      refine (at_anyA a len cap 3 (by omega) w13 hr13).mono ?_; rintro e w14 ⟨q3, rfl, q30, q31, rfl⟩
      obtain ⟨m, rfl⟩ : ∃ m : Nat, q3 = m := ⟨q3.toNat, by omega⟩
      obtain ⟨j0, hj0⟩ : ∃ j0 : Nat, (m : Int) % (n : Int) = j0 := ⟨m % n, (Int.natCast_emod m n).symm⟩
      have hjl : j0 < n := by
        have h := Int.emod_lt_of_pos (m : Int) (show (0 : Int) < (n : Int) by have := N1.out; omega)
        rw [hj0] at h
        omega
      obtain ⟨kk, hkk⟩ : ∃ kk : Nat, 2 + (j0 : Int) = kk := ⟨2 + j0, by omega⟩
      have hn0 : ¬ (n : Int) = 0 := by have := N1.out; omega
      have ek : kk = 2 + j0 := by omega
      have kl : kk < WS.length := by have := HWL.out; omega
      obtain ⟨b, off, z, eb, c0, e0, fz⟩ := n13.at kl
      subst eb
      obtain ⟨a2, cap2, ee, g1, g2, g3, g4⟩ := id n13
      rcases g4 with g4 | ⟨b', off', ex, r1, r2, r3, r4⟩
      · exfalso; rw [g4] at kl; simp at kl
      simp only [Value.slice.injEq, Option.some.injEq, Addr.mk.injEq, and_true] at ee
      obtain ⟨rfl, -, rfl⟩ := ee
      simp only [Option.some.injEq, Addr.mk.injEq, and_true] at ex
      obtain ⟨rfl, rfl⟩ := ex
      have fzn := r3 rfl (off + kk)
      have put := n13.put kl y fy
      have lb : b < w13.heap.size := World.block_lt_of_cell? _ _ c0
      have HEK := Lib.hid ek
      have kl30 : kk ≤ 32 := by have := N2.out; omega
      clear hjl r3 r4 g1 g2 g3 e0 fz ek q30 q31 n13
      go_wp2_with fail
      refine (HFB.out _).mono ?_; rintro e w15 ⟨rfl, rfl⟩
      clear hj0 hkk hn0
      go_upto_region 25 with fail
      refine name_wp fun wS hwS => ?_
      rw [← hwS] at put
      have bS : Below w12.heap.size w12 wS := by rw [hwS]; (repeat (with_reducible first | exact bR _ _ | assumption | refine bD ?_ | refine bN ?_ _ | refine bA ?_ _ | refine bS ?_ _))
      have cW : wS.cell? ⟨b, off + kk, none⟩ = some (.int .i64 y) := by rw [hwS]; exact World.cell?_setCell_same _ _ _ c0
      have zS' : wS.heap.size = w13.heap.size := by rw [hwS]; simp
      clear hwS c0 fzn
      have beS := be12.trans (bS.mono be12.size)
      have dS : Below wS.heap.size wS wS.drew := (Below.refl _ _).drew
      have zSd : wS.drew.heap.size = wS.heap.size := rfl
      have bSd : Below w12.heap.size w12 wS.drew := bS.trans (dS.mono (by omega))
      have beSd := be12.trans (bSd.mono be12.size)
      have cx_11 := cell_keep bSd cx_10
      have b0T_11 := cell_keep bSd b0T_10
      have b1T_11 := cell_keep bSd b1T_10
      have b2T_11 := cell_keep bSd b2T_10
      have b3T_11 := cell_keep bSd b3T_10
      have tT_11 := tT_10.keep bSd (by omega)
      clear cx_10 b0T_10 b1T_10 b2T_10 b3T_10 tT_10
      have T0 : wS.drew.cell? ⟨gT, 0, none⟩ = some (.int .i64 tS.ins) := b0T_11
      have T1 : wS.drew.cell? ⟨gT, 1, none⟩ = some (.slice aoT tS.outs.length koT) := b1T_11
      have T2 : wS.drew.cell? ⟨gT, 2, none⟩ = some (.slice ahT tS.hints.length khT) := b2T_11
      have T3 : wS.drew.cell? ⟨gT, 3, none⟩ = some (.slice acT tS.cons.length kcT) := b3T_11
      have CX : wS.drew.cell? ⟨w1.heap.size, 0, none⟩ = some (.int .i64 x) := cx_11
      have CW : wS.drew.cell? ⟨b, off + kk, none⟩ = some (.int .i64 y) := (cell_keep dS cW)
      obtain ⟨C, hC⟩ : ∃ C, checkB tS (WS.set kk y) = C := ⟨_, rfl⟩
      have CS := check_spec false 0 w5.heap.size _ _ _ _ tS w13.heap.size _ (WS.set kk y) wS.drew tT_11 (by omega) (put.ints.keep dS (by omega)) (by omega) (by rw [List.length_set]; have := HWL.out; have := N2.out; omega) (by have := HI3.out; have := N2.out; omega) (by rw [HI2.out]; simp) (by have := HI4.out; omega)
      rw [hC] at CS
      have HCS := Lib.hid CS
      have HC := Lib.hid hC
      have lT : gT < wS.drew.heap.size := World.block_lt_of_cell? _ _ T0
      clear CS hC put cW b0T_11 b1T_11 b2T_11 b3T_11 cx_11 tT_11
      cases C with
      | false =>
        go_wp2_with fail
        refine wp_region_held_drew (S := fun w' => w'.cell? ⟨gT, 0, none⟩ = some (.int .i64 tS.ins) ∧ w'.cell? ⟨gT, 1, none⟩ = some (.slice aoT tS.outs.length koT) ∧ w'.cell? ⟨gT, 2, none⟩ = some (.slice ahT tS.hints.length khT) ∧ w'.cell? ⟨gT, 3, none⟩ = some (.slice acT tS.cons.length kcT) ∧ w'.cell? ⟨w1.heap.size, 0, none⟩ = some (.int .i64 x) ∧ w'.cell? ⟨b, off + kk, none⟩ = some (.int .i64 y)) (by kernel_rfl) ⟨T0, T1, T2, T3, CX, CW⟩ (fun hHeld => ?_)
        refine wpAnyH_take (i := 0) rfl (by kernel_rfl) (by kernel_rfl) (by kernel_rfl) (fun _ _ _ h => h) (v := ?_) (Or.inl ⟨by rfl, ?_⟩) (by assumption) ?_
        case refine_2 => (intro w hSw; (try dsimp only at hSw); go_simp; (try with_reducible rfl))
        try simp only [Act.put, List.setIfInBounds_toArray, List.set_cons_zero, List.set_cons_succ, List.getElem_toArray, List.getElem_cons_succ, List.getElem_cons_zero]
        refine wpAnyH_take (i := 1) rfl (by kernel_rfl) (by kernel_rfl) (by kernel_rfl) (fun _ _ _ h => h) (v := ?_) (Or.inl ⟨by rfl, ?_⟩) (by assumption) ?_
        case refine_2 => (intro w hSw; (try dsimp only at hSw); go_simp; (try with_reducible rfl))
        try simp only [Act.put, List.setIfInBounds_toArray, List.set_cons_zero, List.set_cons_succ, List.getElem_toArray, List.getElem_cons_succ, List.getElem_cons_zero]
        refine wpAnyH_ready (rs := [2]) (by kernel_rfl) (by simp) ?_
        refine AllReadyH.cons rfl (fun K hK => ?_) AllReadyH.nil
        go_simp
        go_at_call 15; refine HCS.out.mono ?_; rintro e v1 ⟨rfl, j1⟩
        refine hK.out _ _ ⟨ck j1 T0, ck j1 T1, ck j1 T2, ck j1 T3, ck j1 CX, ck j1 CW⟩ (fun hHeld => ?_)
        clear hK K
        try simp only [Act.put, List.setIfInBounds_toArray, List.set_cons_zero, List.set_cons_succ, List.getElem_toArray, List.getElem_cons_succ, List.getElem_cons_zero]
        refine wpAnyH_take (i := 3) rfl (by kernel_rfl) (by kernel_rfl) (by kernel_rfl) (fun _ _ _ h => h) (v := ?_) (Or.inl ⟨by rfl, ?_⟩) (by assumption) ?_
        case refine_2 => (intro w hSw; (try dsimp only at hSw); go_simp; (try with_reducible rfl))
        try simp only [Act.put, List.setIfInBounds_toArray, List.set_cons_zero, List.set_cons_succ, List.getElem_toArray, List.getElem_cons_succ, List.getElem_cons_zero]
        refine wpAnyH_take (i := 4) rfl (by kernel_rfl) (by kernel_rfl) (by kernel_rfl) (fun _ _ _ h => h) (v := ?_) (Or.inl ⟨by rfl, ?_⟩) (by assumption) ?_
        case refine_2 => (intro w hSw; (try dsimp only at hSw); go_simp; (try with_reducible rfl))
        try simp only [Act.put, List.setIfInBounds_toArray, List.set_cons_zero, List.set_cons_succ, List.getElem_toArray, List.getElem_cons_succ, List.getElem_cons_zero]
        refine wpAnyH_take (i := 5) rfl (by kernel_rfl) (by kernel_rfl) (by kernel_rfl) (fun _ _ _ h => h) (Or.inr ⟨by rfl, rfl⟩) (by assumption) ?_
        try simp only [Act.put, List.setIfInBounds_toArray, List.set_cons_zero, List.set_cons_succ, List.getElem_toArray, List.getElem_cons_succ, List.getElem_cons_zero]
        refine wpAnyH_take (i := 6) rfl (by kernel_rfl) (by kernel_rfl) (by kernel_rfl) (fun _ _ _ h => h) (Or.inr ⟨by rfl, rfl⟩) (by assumption) ?_
        try simp only [Act.put, List.setIfInBounds_toArray, List.set_cons_zero, List.set_cons_succ, List.getElem_toArray, List.getElem_cons_succ, List.getElem_cons_zero]
        refine wpAnyH_take (i := 7) rfl (by kernel_rfl) (by kernel_rfl) (by kernel_rfl) (fun _ _ _ h => h) (Or.inr ⟨by rfl, rfl⟩) (by assumption) ?_
        try simp only [Act.put, List.setIfInBounds_toArray, List.set_cons_zero, List.set_cons_succ, List.getElem_toArray, List.getElem_cons_succ, List.getElem_cons_zero]
        refine wpAnyH_take (i := 8) rfl (by kernel_rfl) (by kernel_rfl) (by kernel_rfl) (fun _ _ _ h => h) (Or.inr ⟨by rfl, rfl⟩) (by assumption) ?_
        try simp only [Act.put, List.setIfInBounds_toArray, List.set_cons_zero, List.set_cons_succ, List.getElem_toArray, List.getElem_cons_succ, List.getElem_cons_zero]
        refine wpAnyH_take (i := 9) rfl (by kernel_rfl) (by kernel_rfl) (by kernel_rfl) (fun _ _ _ h => h) (Or.inr ⟨by rfl, rfl⟩) (by assumption) ?_
        try simp only [Act.put, List.setIfInBounds_toArray, List.set_cons_zero, List.set_cons_succ, List.getElem_toArray, List.getElem_cons_succ, List.getElem_cons_zero]
        refine wpAnyH_take (i := 10) rfl (by kernel_rfl) (by kernel_rfl) (by kernel_rfl) (fun _ _ _ h => h) (Or.inr ⟨by rfl, rfl⟩) (by assumption) ?_
        try simp only [Act.put, List.setIfInBounds_toArray, List.set_cons_zero, List.set_cons_succ, List.getElem_toArray, List.getElem_cons_succ, List.getElem_cons_zero]
        refine wpAnyH_take (i := 11) rfl (by kernel_rfl) (by kernel_rfl) (by kernel_rfl) (fun _ _ _ h => h) (Or.inr ⟨by rfl, rfl⟩) (by assumption) ?_
        try simp only [Act.put, List.setIfInBounds_toArray, List.set_cons_zero, List.set_cons_succ, List.getElem_toArray, List.getElem_cons_succ, List.getElem_cons_zero]
        refine wpAnyH_take (i := 12) rfl (by kernel_rfl) (by kernel_rfl) (by kernel_rfl) (fun _ _ _ h => h) (Or.inr ⟨by rfl, rfl⟩) (by assumption) ?_
        try simp only [Act.put, List.setIfInBounds_toArray, List.set_cons_zero, List.set_cons_succ, List.getElem_toArray, List.getElem_cons_succ, List.getElem_cons_zero]
        refine wpAnyH_take (i := 13) rfl (by kernel_rfl) (by kernel_rfl) (by kernel_rfl) (fun _ _ _ h => h) (Or.inr ⟨by rfl, rfl⟩) (by assumption) ?_
        try simp only [Act.put, List.setIfInBounds_toArray, List.set_cons_zero, List.set_cons_succ, List.getElem_toArray, List.getElem_cons_succ, List.getElem_cons_zero]
        refine wpAnyH_take (i := 14) rfl (by kernel_rfl) (by kernel_rfl) (by kernel_rfl) (fun _ _ _ h => h) (Or.inr ⟨by rfl, rfl⟩) (by assumption) ?_
        try simp only [Act.put, List.setIfInBounds_toArray, List.set_cons_zero, List.set_cons_succ, List.getElem_toArray, List.getElem_cons_succ, List.getElem_cons_zero]
        refine wpAnyH_take (i := 15) rfl (by kernel_rfl) (by kernel_rfl) (by kernel_rfl) (fun _ _ _ h => h) (Or.inr ⟨by rfl, rfl⟩) (by assumption) ?_
        try simp only [Act.put, List.setIfInBounds_toArray, List.set_cons_zero, List.set_cons_succ, List.getElem_toArray, List.getElem_cons_succ, List.getElem_cons_zero]
        refine wpAnyH_take (i := 16) rfl (by kernel_rfl) (by kernel_rfl) (by kernel_rfl) (fun _ _ _ h => h) (Or.inr ⟨by rfl, rfl⟩) (by assumption) ?_
        try simp only [Act.put, List.setIfInBounds_toArray, List.set_cons_zero, List.set_cons_succ, List.getElem_toArray, List.getElem_cons_succ, List.getElem_cons_zero]
        refine wpAnyH_take (i := 17) rfl (by kernel_rfl) (by kernel_rfl) (by kernel_rfl) (fun _ _ _ h => h) (v := ?_) (Or.inl ⟨by rfl, ?_⟩) (by assumption) ?_
        case refine_2 => (intro w hSw; (try dsimp only at hSw); go_simp; (try with_reducible rfl))
        try simp only [Act.put, List.setIfInBounds_toArray, List.set_cons_zero, List.set_cons_succ, List.getElem_toArray, List.getElem_cons_succ, List.getElem_cons_zero]
        refine wpAnyH_take (i := 18) rfl (by kernel_rfl) (by kernel_rfl) (by kernel_rfl) (fun _ _ _ h => h) (v := ?_) (Or.inl ⟨by rfl, ?_⟩) (by assumption) ?_
        case refine_2 => (intro w hSw; (try dsimp only at hSw); go_simp; (try with_reducible rfl))
        try simp only [Act.put, List.setIfInBounds_toArray, List.set_cons_zero, List.set_cons_succ, List.getElem_toArray, List.getElem_cons_succ, List.getElem_cons_zero]
        refine wpAnyH_done (by kernel_rfl) ?_ _
        go_wp2_with fail
        go_ret
        exact ⟨rfl, beSd.trans (j1.mono beSd.size)⟩
      | true =>
        have ek := HEK.out
        have hjn : j0 < n := by have := HWL.out; omega
        have hy := HFIRM.out j0 hjn HQ.out (by rw [← HWE.out, ← ek]; exact HC.out)
        have hso := shr_one HLX.out j0
        rw [← hy] at hso
        have hso' : bits BinOp.and IntKind.i64 (x / 2 ^ min j0 64) 1 = y := by rw [Nat.min_eq_left (by have := N2.out; omega)]; exact hso
        have hk2 : (kk : Int) - 2 = (j0 : Int) := by omega
        have hwj : IntKind.i64.wrap (j0 : Int) = (j0 : Int) := by rw [IntKind.wrap_i64]; have := N2.out; omega
        have hj64 : j0 < 64 := by have := N2.out; omega
        have lX : 0 ≤ x := by have := HLX.out; unfold fl at this; omega
        have yy : (y == y) = true := by simp
        clear hy ek hjn
        go_wp2_with fail
        go_region_held3 (fun w' => w'.cell? ⟨gT, 0, none⟩ = some (.int .i64 tS.ins) ∧ w'.cell? ⟨gT, 1, none⟩ = some (.slice aoT tS.outs.length koT) ∧ w'.cell? ⟨gT, 2, none⟩ = some (.slice ahT tS.hints.length khT) ∧ w'.cell? ⟨gT, 3, none⟩ = some (.slice acT tS.cons.length kcT) ∧ w'.cell? ⟨w1.heap.size, 0, none⟩ = some (.int .i64 x) ∧ w'.cell? ⟨b, off + kk, none⟩ = some (.int .i64 y)) (first | exact ⟨T0, T1, T2, T3, CX, CW⟩ | exact ⟨ck j1 T0, ck j1 T1, ck j1 T2, ck j1 T3, ck j1 CX, ck j1 CW⟩)
          (first | (go_at_call 15; (with_reducible refine HCS.out.mono ?_); rintro e v1 ⟨rfl, j1⟩))
        go_wp2_with fail
        go_ret
        exact ⟨rfl, beSd.trans (j1.mono beSd.size)⟩
end Go.Proofs.Ytcenijdaacbgpaa.L
