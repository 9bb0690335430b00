/- FnRanges: a number satisfies AddRange exactly if it is less than the power of two (written by tools/gen/gaterg.py). -/
import Derived.Test.YtcenijdaacbgpaaGateA
import Derived.Test.YtcenijdaacbgpaaGateB
import Derived.Test.YtcenijdaacbgpaaB26
import Derived.Test.YtcenijdaacbgpaaAddG
import Derived.Test.YtcenijdaacbgpaaRgnB
namespace Go.Proofs.Ytcenijdaacbgpaa.L
open Go.RowKit Go.Proofs.Ytcenijdaacbgpaa.S
set_option linter.unusedVariables false
set_option linter.unusedSimpArgs false

theorem pow30 {n : Nat} (h : n ≤ 30) : (1 : Int) ≤ 2 ^ n ∧ (2 : Int) ^ n ≤ 1073741824 := by
  have h1 : (1 : Int) ≤ 2 ^ n := Int.pow_pos (by omega)
  have h3 : (2 : Nat) ^ n ≤ 1073741824 := Nat.pow_le_pow_right (n := 2) (by omega) (show n ≤ 30 by omega)
  have h2 := Int.ofNat_le.2 h3
  rw [Int.natCast_pow] at h2
  exact ⟨h1, h2⟩
theorem shl_one {n : Nat} (h : n ≤ 30) : IntKind.i64.wrap ((2 : Int) ^ min n 64) = 2 ^ n := by
  obtain ⟨h1, h2⟩ := pow30 h
  rw [Nat.min_eq_left (by omega), IntKind.wrap_i64]
  generalize (2 : Int) ^ n = t at *
  omega
set_option maxRecDepth 100000 in
set_option maxHeartbeats 12800000 in
theorem law_FnRanges (a : Option Addr) (len cap : Nat) (w : World) (hr : Row w.heap.size w a len) :
    Calls Try.prog 5 #[.slice a len cap] w fun e w' => e = .returned (.bool true) ∧ Below w.heap.size w w' := by
  go_enter Try.func5, Try.ntmps5
  go_wp2_with fail
  refine (drawFAdd_any a len cap w hr).mono ?_
  rintro e w1 ⟨p, q, rfl, fp, fq, be1⟩
  have hr1 : Row w1.heap.size w1 a len := row_wide2A (hr.keep be1) be1.size
  obtain ⟨x, hx⟩ : ∃ x, x = p % 2147483647 := ⟨_, rfl⟩
  obtain ⟨y, hy⟩ : ∃ y, y = q % 2147483647 := ⟨_, rfl⟩
  have lx : fl x := by unfold fl; omega
  have ly : fl y := by unfold fl; omega
  have FA := field_any p
  have FB := field_any q
  rw [← hx] at FA
  rw [← hy] at FB
  have HFA := Lib.hid FA
  have HFB := Lib.hid FB
  have HLX := Lib.hid lx
  have HLY := Lib.hid ly
  clear FA FB hx hy
  go_wp2_with fail
  refine (at_anyA a len cap 2 (by omega) w1 hr1).mono ?_; rintro e w2 ⟨q2, rfl, q20, q21, rfl⟩
  obtain ⟨k, rfl⟩ : ∃ k : Nat, q2 = k := ⟨q2.toNat, by omega⟩
  obtain ⟨n, hn⟩ : ∃ n : Nat, 1 + (k : Int) % 30 = n := ⟨1 + k % 30, by omega⟩
  have n1 : 1 ≤ n := by omega
  have n2 : n ≤ 30 := by omega
  have N1 := Lib.hid n1
  have N2 := Lib.hid n2
  go_wp2_with fail
  refine (HFA.out _ fp).mono ?_; rintro e w2 ⟨rfl, rfl⟩
  clear hn q20 q21
  go_wp2_with fail
  refine name_call fun w2 hw2 => ?_
  have e2 : Below w1.heap.size w1 w2 := by rw [hw2]; (repeat (with_reducible first | exact bR _ _ | assumption | refine bD ?_ | refine bN ?_ _ | refine bA ?_ _ | refine bS ?_ _))
  have z2 : w1.heap.size + 1 ≤ w2.heap.size := by rw [hw2]; simp
  have cx2 : w2.cell? ⟨w1.heap.size, 0, none⟩ = some (.int .i64 x) := by rw [hw2]; first | (simp; done) | go_simp
  have be2 := be1.trans (e2.mono be1.size)
  clear hw2
  have fx : Fits x := by have h := HLX.out; unfold fl at h; unfold Fits; omega
  have ti2 := ints1A fx cx2 (by omega)
  refine (inputs_any w2.heap.size _ [x] w2 ti2 (Nat.le_refl _) (by simp)).mono ?_; rintro e w3 ⟨ur, rfl, f3, tl3⟩
  have z3 := f3.size
  have be3 := be2.trans (f3.mono be2.size)
  have cx := ck f3 cx2
  have tl : LinS false 0 w3.heap.size w3 ur [v1] := tl3
  obtain ⟨al, kl, rfl, ll, lb⟩ := tl.shape
  obtain ⟨rb, ro, ua, ea, -, lrb, ca, ta⟩ := tl.at (j := 0) (by simp)
  subst ea
  obtain ⟨xa, ka, rfl, -, -⟩ := ta.shape
  rw [Nat.add_zero] at ca
  have ta' : Terms false 0 w3.heap.size w3 (.slice xa 1 ka) v1 := ta
  have ca' : w3.cell? ⟨rb, ro, none⟩ = some (.slice xa 1 ka) := ca
  clear cx2 ti2 ca ta tl tl3 ll lb
  go_wp2_with fail
  refine name_wp fun w4 hw4 => ?_
  have e4 : Below w3.heap.size w3 w4 := by rw [hw4]; (repeat (with_reducible first | exact bR _ _ | assumption | refine bD ?_ | refine bN ?_ _ | refine bA ?_ _ | refine bS ?_ _))
  have z4 : w3.heap.size + 1 ≤ w4.heap.size := by rw [hw4]; simp
  have s0 : w4.cell? ⟨w3.heap.size, 0, none⟩ = some (.int .i64 1) := by rw [hw4]; first | (simp; done) | go_simp
  have s1 : w4.cell? ⟨w3.heap.size, 1, none⟩ = some (.slice none 0 0) := by rw [hw4]; first | (simp; done) | go_simp
  have s2 : w4.cell? ⟨w3.heap.size, 2, none⟩ = some (.slice none 0 0) := by rw [hw4]; first | (simp; done) | go_simp
  have s3 : w4.cell? ⟨w3.heap.size, 3, none⟩ = some (.slice none 0 0) := by rw [hw4]; first | (simp; done) | go_simp
  have be4 := be3.trans (e4.mono be3.size)
  have d4 : Below w4.heap.size w4 w4.drew := (Below.refl _ _).drew
  have e4d : Below w3.heap.size w3 w4.drew := e4.trans (d4.mono (by omega))
  have zd4 : w4.drew.heap.size = w4.heap.size := rfl
  have F1 : Fits 1 := by unfold Fits; omega
  have s0_1 := cell_keep d4 s0
  have s1_1 := cell_keep d4 s1
  have s2_1 := cell_keep d4 s2
  have s3_1 := cell_keep d4 s3
  clear s0 s1 s2 s3
  have cx_1 := cell_keep e4d cx
  have ca'_1 := cell_keep e4d ca'
  have ta'_1 := ta'.keep e4d (by omega)
  clear cx ca' ta'
  clear hw4
  obtain ⟨tS, htS⟩ : ∃ t, t = tBits n := ⟨_, rfl⟩
  have HT := Lib.hid htS
  have hIs : tS = ⟨1, [], bitHs v1 n, bitCs 2 n ++ [⟨lcomb 2147483646 (packL (zBits n)) v1, constOf 1, []⟩]⟩ := by rw [htS, tBits_is n2]
  obtain ⟨hMay, hOk, hSys⟩ : mayL (sysI 1) [v1] = true ∧ bOk (bitsB (sysI 1) ⟨[], [], 0⟩ v1 n) = true ∧ sysOk tS = true := by
    have hf := bitsFacts_of n2
    unfold bitsFacts at hf
    simp only [Bool.and_eq_true] at hf
    rw [htS]
    exact ⟨hf.1.1.1.1.1, hf.1.1.1.1.2, hf.1.1.1.2⟩
  have hI1 : tS.ins = 1 := by rw [hIs]
  have hI2 : tS.outs = [] := by rw [hIs]
  have hI3 : tS.hints.length ≤ 1000 := by rw [hIs]; simp [bitHs]; omega
  have hI4 : tS.cons.length ≤ 1000 := by rw [hIs]; simp [bitCs]; omega
  have hm : true = (decide (1 ≤ (n : Int) ∧ (n : Int) ≤ 30) && mayL (sysI 1) [v1]) := by rw [hMay, decide_eq_true (by omega)]; rfl
  have Ho : Hid (true = (true && bOk (bitsB (sysI 1) ⟨[], [], 0⟩ v1 n))) := Lib.hid (by rw [hOk]; rfl)
  have Hr : Hid (tS = if true = true then bSys (sysI 1) (bitsB (sysI 1) ⟨[], [], 0⟩ v1 n) else sys0) := Lib.hid (by rw [if_pos rfl, htS]; rfl)
  obtain ⟨eSol, bSol⟩ := solB_bits HLX.out n2
  rw [← htS] at bSol
  have HM := Lib.hid hm
  have HS := Lib.hid hSys
  have HI1 := Lib.hid hI1
  have HI2 := Lib.hid hI2
  have HI3 := Lib.hid hI3
  have HI4 := Lib.hid hI4
  obtain ⟨B, hB⟩ : ∃ B, decide (x < 2 ^ n) = B := ⟨_, rfl⟩
  rw [hB] at bSol
  have HB := Lib.hid bSol
  have HB2 := Lib.hid hB
  clear htS hIs hMay hOk hSys hI1 hI2 hI3 hI4 hm eSol bSol hB
  go_cut [9, 10] (fun s9 s10 wx => CutSB w4.drew tS true s9 s10 wx)
  case first =>
    rename_i J K' hJ hK
    refine wp_region_drawn [9, 10, 30, 31, 32, 33, 34, 35, 36, 37, 38] (fun d u wx => Below w4.drew.heap.size w4.drew wx ∧ (d 0 = true → u 31 = .agg #[.int .i64 1, .slice none 0 0, .slice none 0 0, .slice none 0 0]) ∧ (d 1 = true → u 32 = .slice (some ⟨rb, ro, none⟩) 1 kl) ∧ (d 2 = true → u 33 = .pointer (some ⟨rb, ro, none⟩)) ∧ (d 3 = true → u 34 = .agg #[.slice xa 1 ka]) ∧ (d 4 = true → u 35 = .int .i64 n) ∧ ResSB w4.drew tS true (d 5) (d 6) (d 7) (d 8) (d 9) (d 10) (d 11) (u 36) (u 30) (u 37) (u 38) (u 9) (u 10) wx) (by kernel_rfl) (by kernel_rfl) (by kernel_rfl) ?_ ?_ ?_
    · intro u; exact ⟨Below.refl _ _, vac rfl, vac rfl, vac rfl, vac rfl, vac rfl, ResSB.start⟩
    · refine ⟨?_, ?_, ?_, ?_, ?_, ?_, ?_, ?_, ?_, ?_, ?_, ?_, trivial⟩
      · intro d u wx h0 hd hF
        obtain ⟨hb, f0, f1, f2, f3, f4, fR⟩ := hF
        have sz := hb.size
        refine Wpv.env fun ρ hin hout hcon hfun => ?_
        have E2 : ρ (.tmp 7) = .pointer (some ⟨w3.heap.size, 0, none⟩) := (hout 7 (by kernel_rfl)).trans (by kernel_rfl)
        clear hin hout
        have c0 := cell_keep hb s0_1
        have c1 := cell_keep hb s1_1
        have c2 := cell_keep hb s2_1
        have c3 := cell_keep hb s3_1
        refine Wpv.value (v := .agg #[.int .i64 1, .slice none 0 0, .slice none 0 0, .slice none 0 0]) (w' := wx) ?_ ⟨hb, fun _ => rfl, f1, f2, f3, f4, fR⟩
        clear f0 f1 f2 f3 f4 fR
        simp only [execOp]; rw [E2]; go_simp
      · intro d u wx h0 hd hF
        obtain ⟨hb, f0, f1, f2, f3, f4, fR⟩ := hF
        have sz := hb.size
        refine Wpv.env fun ρ hin hout hcon hfun => ?_
        have E2 : ρ (.tmp 8) = .slice (some ⟨rb, ro, none⟩) 1 kl := (hout 8 (by kernel_rfl)).trans (by kernel_rfl)
        clear hin hout
        exact Wpv.value (v := .slice (some ⟨rb, ro, none⟩) 1 kl) (by simp only [execOp]; rw [E2]; rfl) ⟨hb, f0, fun _ => rfl, f2, f3, f4, fR⟩
      · intro d u wx h0 hd hF
        obtain ⟨hb, f0, f1, f2, f3, f4, fR⟩ := hF
        have sz := hb.size
        refine Wpv.env fun ρ hin hout hcon hfun => ?_
        have E2 := (hin 32 (by kernel_rfl)).trans (f1 (hd.get (j := 1) (by kernel_rfl)))
        clear hin hout
        refine Wpv.value (v := .pointer (some ⟨rb, ro, none⟩)) (w' := wx) ?_ ⟨hb, f0, f1, fun _ => rfl, f3, f4, fR⟩
        clear f0 f1 f2 f3 f4 fR
        go_simp
      · intro d u wx h0 hd hF
        obtain ⟨hb, f0, f1, f2, f3, f4, fR⟩ := hF
        have sz := hb.size
        refine Wpv.env fun ρ hin hout hcon hfun => ?_
        have E2 := (hin 33 (by kernel_rfl)).trans (f2 (hd.get (j := 2) (by kernel_rfl)))
        clear hin hout
        have c0 := cell_keep hb ca'_1
        refine Wpv.value (v := .agg #[.slice xa 1 ka]) (w' := wx) ?_ ⟨hb, f0, f1, f2, fun _ => rfl, f4, fR⟩
        clear f0 f1 f2 f3 f4 fR
        go_simp
      · intro d u wx h0 hd hF
        obtain ⟨hb, f0, f1, f2, f3, f4, fR⟩ := hF
        have sz := hb.size
        refine Wpv.env fun ρ hin hout hcon hfun => ?_
        have E2 : ρ (.tmp 5) = .int .i64 n := (hout 5 (by kernel_rfl)).trans (by kernel_rfl)
        clear hin hout
        exact Wpv.value (v := .int .i64 n) (by simp only [execOp]; rw [E2]; rfl) ⟨hb, f0, f1, f2, f3, fun _ => rfl, fR⟩
      · intro d u wx h0 hd hF
        obtain ⟨hb, f0, f1, f2, f3, f4, fR⟩ := hF
        have sz := hb.size
        refine Wpv.env fun ρ hin hout hcon hfun => ?_
        have A0 := (hin 31 (by kernel_rfl)).trans (f0 (hd.get (j := 0) (by kernel_rfl)))
        have A1 := (hin 34 (by kernel_rfl)).trans (f3 (hd.get (j := 3) (by kernel_rfl)))
        have A2 := (hin 35 (by kernel_rfl)).trans (f4 (hd.get (j := 4) (by kernel_rfl)))
        clear hin hout
        rw [h0] at fR
        refine Wpv.enter (f := 17) (args := #[.agg #[.int .i64 1, .slice none 0 0, .slice none 0 0, .slice none 0 0], .agg #[.slice xa 1 ka], .int .i64 n]) (w' := wx) (by clear f0 f1 f2 f3 f4 fR; go_simp) (addRange_impl false 0 0 _ _ _ _ (sysI 1) false 0 w3.heap.size _ v1 n wx (sysI_R 1 F1 wx) (Nat.zero_le _) (sysI_small 1) (ta'_1.keep hb (by omega)) (by omega) (by simp [v1]) n (fun _ => ⟨rfl, N2.out⟩) true HM.out true tS Ho Hr) ?_
        intro e' w' hq
        obtain ⟨uu, hu, j1, hr⟩ := ResSB.main fR hb hq
        exact ⟨uu, hu, ⟨hb.trans (j1.mono sz), f0, f1, f2, f3, f4, hr⟩⟩
      · intro d u wx h0 hd hF
        obtain ⟨hb, f0, f1, f2, f3, f4, fR⟩ := hF
        have sz := hb.size
        refine Wpv.env fun ρ hin hout hcon hfun => ?_
        have E1 := hin 36 (by kernel_rfl)
        clear hin hout
        exact Wpv.value (v := u 36) (by simp only [execOp]; rw [E1]; rfl) ⟨hb, f0, f1, f2, f3, f4, (ResSB.moveD (hd.get (j := 5) (by kernel_rfl)) fR)⟩
      · intro d u wx h0 hd hF
        obtain ⟨hb, f0, f1, f2, f3, f4, fR⟩ := hF
        have sz := hb.size
        refine Wpv.env fun ρ hin hout hcon hfun => ?_
        have E1 := hin 30 (by kernel_rfl)
        clear hin hout
        have hm : d 6 = true := hd.get (j := 6) (by kernel_rfl)
        obtain ⟨x, b, e⟩ := ResSB.tupD hm fR
        have e1 := E1.trans e
        refine Wpv.value (v := x) (w' := wx) (by clear e E1 f0 f1 f2 f3 f4 fR; go_simp) ⟨hb, f0, f1, f2, f3, f4, (ResSB.ex0D hm e fR)⟩
      · intro d u wx h0 hd hF
        obtain ⟨hb, f0, f1, f2, f3, f4, fR⟩ := hF
        have sz := hb.size
        refine Wpv.env fun ρ hin hout hcon hfun => ?_
        have E1 := hin 30 (by kernel_rfl)
        clear hin hout
        have hm : d 6 = true := hd.get (j := 6) (by kernel_rfl)
        obtain ⟨x, b, e⟩ := ResSB.tupD hm fR
        have e1 := E1.trans e
        refine Wpv.value (v := b) (w' := wx) (by clear e E1 f0 f1 f2 f3 f4 fR; go_simp) ⟨hb, f0, f1, f2, f3, f4, (ResSB.ex2D hm e fR)⟩
      · intro d u wx h0 hd hF
        obtain ⟨hb, f0, f1, f2, f3, f4, fR⟩ := hF
        have sz := hb.size
        refine Wpv.env fun ρ hin hout hcon hfun => ?_
        clear hin hout
        rw [h0] at fR
        have j1 : Below wx.heap.size wx (wx.alloc (.cells #[.int .i64 0, .slice none 0 0, .slice none 0 0, .slice none 0 0] 32)) := balloc (Nat.le_refl _) (Below.refl _ _) _
        refine Wpv.value (v := .pointer (some ⟨wx.heap.size, 0, none⟩)) (w' := wx.alloc (.cells #[.int .i64 0, .slice none 0 0, .slice none 0 0, .slice none 0 0] 32)) (by clear f0 f1 f2 f3 f4 fR; go_simp) ⟨hb.trans (j1.mono sz), f0, f1, f2, f3, f4, fR.boxA hb⟩
      · intro d u wx h0 hd hF
        obtain ⟨hb, f0, f1, f2, f3, f4, fR⟩ := hF
        have sz := hb.size
        refine Wpv.env fun ρ hin hout hcon hfun => ?_
        have Ea := hin 9 (by kernel_rfl)
        have Eb := hin 37 (by kernel_rfl)
        clear hin hout
        obtain ⟨gg, n0, a1, n1, k1, a2, n2, k2, a3, n3, k3, z0, z1, z2, z3, e1, e2, fr, bx⟩ := ResSB.preAD (hd.get (j := 7) (by kernel_rfl)) (hd.get (j := 9) (by kernel_rfl)) fR
        obtain ⟨c0, c1, c2, c3⟩ := id bx
        obtain ⟨r0, r1, r2, r3⟩ := id fr
        obtain ⟨lg, fR'⟩ := ResSB.setAD (hd.get (j := 7) (by kernel_rfl)) (hd.get (j := 9) (by kernel_rfl)) e1 e2 fR
        have y1 := Ea.trans e1
        have y2 := Eb.trans e2
        refine Wpv.skip (w' := set4 wx gg (.int .i64 n0) (.slice a1 n1 k1) (.slice a2 n2 k2) (.slice a3 n3 k3)) (by unfold set4; clear fR' e1 e2 Ea Eb bx fr f0 f1 f2 f3 f4 fR; go_simp) ?_
        exact ⟨set4_below hb lg _ _ _ _, f0, f1, f2, f3, f4, fR'⟩
      · intro d u wx h0 hd hF
        obtain ⟨hb, f0, f1, f2, f3, f4, fR⟩ := hF
        have sz := hb.size
        refine Wpv.env fun ρ hin hout hcon hfun => ?_
        have E1 := hin 38 (by kernel_rfl)
        clear hin hout
        exact Wpv.value (v := u 38) (by simp only [execOp]; rw [E1]; rfl) ⟨hb, f0, f1, f2, f3, f4, (ResSB.finD (hd.get (j := 8) (by kernel_rfl)) fR)⟩
    · intro d u wx hall hF
      obtain ⟨hb, f0, f1, f2, f3, f4, fR⟩ := hF
      have fC := ResSB.cutD fR hb (hall 5 (by decide)) (hall 9 (by decide)) (hall 10 (by decide)) (hall 11 (by decide))
      clear f0 f1 f2 f3 f4 fR
      refine hK _ _ (Met.intro (hJ _ _ ?_))
      simp only [setF, List.foldl_cons, List.foldl_nil, Act.put, List.setIfInBounds_toArray, List.set_cons_zero, List.set_cons_succ]
      repeat apply Exists.intro
      exact ⟨fC, rfl⟩
  obtain ⟨gT, uiT, uoT, uhT, ucT, rfl, rfl, hgT, ⟨b0T, b1T, b2T, b3T⟩, tT, BT⟩ := hcut
  obtain ⟨aoT, koT, ahT, khT, acT, kcT, rfl, rfl, rfl, rfl, -⟩ := id tT.shape
  obtain ⟨w5, hw5⟩ : ∃ x, x = wc := ⟨_, rfl⟩
  subst hw5
  have z5 := BT.size
  have be5 : Below w.heap.size w w5 := be4.trans ((d4.trans BT).mono be4.size)
  have s0_2 := cell_keep BT s0_1
  have s1_2 := cell_keep BT s1_1
  have s2_2 := cell_keep BT s2_1
  have s3_2 := cell_keep BT s3_1
  have cx_2 := cell_keep BT cx_1
  have ca_2 := cell_keep BT ca'_1
  have ta_2 := ta'_1.keep BT (by omega)
  clear s0_1 s1_1 s2_1 s3_1 cx_1 ca'_1 ta'_1
  clear Ho Hr
  have lgT : gT < w5.heap.size := World.block_lt_of_cell? _ _ b0T
  have ti5 := ints1A fx cx_2 (by omega)
  have TD := Lib.hid (told_any false 0 w5.heap.size _ _ _ _ tS w5.heap.size _ [x] false 0 0 _ [] w5 tT (Nat.le_refl _) ti5 (Nat.le_refl _) LinS.nil (Nat.zero_le _) (by simp) (by have := HI3.out; omega) (by rw [HI2.out]; simp) (by have := HI4.out; omega) (by simp) (fun _ z hz => by simp at hz) B HB.out [] (by unfold toldL; split <;> rfl))
  clear ti5
  go_wp2_with fail
  refine (TD.out).mono ?_; rintro e w6 ⟨u6, rfl, f6, n6⟩
  have z6 := f6.size
  have be6 := be5.trans (f6.mono be5.size)
  obtain ⟨y6, k6, rfl, -, -⟩ := n6.shape
  have d6 : Below w6.heap.size w6 w6.drew := (Below.refl _ _).drew
  have f6d : Below w5.heap.size w5 w6.drew := f6.trans (d6.mono (by omega))
  have zd6 : w6.drew.heap.size = w6.heap.size := rfl
  clear TD n6
  have S0 : w6.drew.cell? ⟨w3.heap.size, 0, none⟩ = some (.int .i64 1) := cell_keep f6d s0_2
  have S1 : w6.drew.cell? ⟨w3.heap.size, 1, none⟩ = some (.slice none 0 0) := cell_keep f6d s1_2
  have S2 : w6.drew.cell? ⟨w3.heap.size, 2, none⟩ = some (.slice none 0 0) := cell_keep f6d s2_2
  have S3 : w6.drew.cell? ⟨w3.heap.size, 3, none⟩ = some (.slice none 0 0) := cell_keep f6d s3_2
  have T0 : w6.drew.cell? ⟨gT, 0, none⟩ = some (.int .i64 tS.ins) := cell_keep f6d b0T
  have T1 : w6.drew.cell? ⟨gT, 1, none⟩ = some (.slice aoT tS.outs.length koT) := cell_keep f6d b1T
  have T2 : w6.drew.cell? ⟨gT, 2, none⟩ = some (.slice ahT tS.hints.length khT) := cell_keep f6d b2T
  have T3 : w6.drew.cell? ⟨gT, 3, none⟩ = some (.slice acT tS.cons.length kcT) := cell_keep f6d b3T
  have CX : w6.drew.cell? ⟨w1.heap.size, 0, none⟩ = some (.int .i64 x) := cell_keep f6d cx_2
  have TT := tT.keep f6d (by omega)
  have GT := Lib.hid (grown_yes 0 _ _ _ _ w5.heap.size _ _ _ _ (sysI 1) tS w6.drew (sysI_R 1 F1 _) (Nat.zero_le _) TT (by omega) sysI1_sysA HS.out HI1.out HI2.out (H := tS.hints) rfl (C := tS.cons) rfl)
  have lS : w3.heap.size < w6.drew.heap.size := World.block_lt_of_cell? _ _ S0
  have lT : gT < w6.drew.heap.size := World.block_lt_of_cell? _ _ T0
  clear TT s0_2 s1_2 s2_2 s3_2 b0T b1T b2T b3T cx_2
  obtain ⟨p1, p2⟩ := pow30 N2.out
  have hB := HB2.out
  have hsh := shl_one N2.out
  have bb : (B == B) = true := by simp
  clear n1 n2
  go_wp2_with fail
  go_region_held3 (fun w' => w'.cell? ⟨w3.heap.size, 0, none⟩ = some (.int .i64 1) ∧ w'.cell? ⟨w3.heap.size, 1, none⟩ = some (.slice none 0 0) ∧ w'.cell? ⟨w3.heap.size, 2, none⟩ = some (.slice none 0 0) ∧ w'.cell? ⟨w3.heap.size, 3, none⟩ = some (.slice none 0 0) ∧ w'.cell? ⟨gT, 0, none⟩ = some (.int .i64 tS.ins) ∧ w'.cell? ⟨gT, 1, none⟩ = some (.slice aoT tS.outs.length koT) ∧ w'.cell? ⟨gT, 2, none⟩ = some (.slice ahT tS.hints.length khT) ∧ w'.cell? ⟨gT, 3, none⟩ = some (.slice acT tS.cons.length kcT) ∧ w'.cell? ⟨w1.heap.size, 0, none⟩ = some (.int .i64 x)) (first | exact ⟨S0, S1, S2, S3, T0, T1, T2, T3, CX⟩ | exact ⟨ck j1 S0, ck j1 S1, ck j1 S2, ck j1 S3, ck j1 T0, ck j1 T1, ck j1 T2, ck j1 T3, ck j1 CX⟩)
    (first | (go_at_call 11; (with_reducible refine GT.out.mono ?_); rintro e v1 ⟨rfl, j1⟩))
  go_wp2_with fail
  go_ret
  exact ⟨rfl, be6.trans ((d6.trans j1).mono be6.size)⟩
end Go.Proofs.Ytcenijdaacbgpaa.L
