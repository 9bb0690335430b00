/- FnBools: exactly 0 and 1 satisfy AddBool; exactly equal values satisfy AddEq. -/
import Derived.Test.YtghjcedhoeoiiaaGateF
import Derived.Test.YtghjcedhoeoiiaaRgnB
import Derived.Test.YtghjcedhoeoiiaaB19
import Derived.Test.YtghjcedhoeoiiaaRow
import Derived.Deep.DeepCutAuto
namespace Go.Proofs.Ytghjcedhoeoiiaa.L
open Go.RowKit Go.Proofs.Ytghjcedhoeoiiaa.S
set_option linter.unusedVariables false
set_option linter.unusedSimpArgs false

theorem field_any (n : Int) (w : World) (h : Fits n) : Calls Try.prog 9 #[.int .i64 n] w fun e w' => e = .returned (.int .i64 (n % 2147483647)) ∧ w = w' := by
  have FO := fof_spec n w h.1 h.2
  have HF := Lib.hid FO
  clear FO
  go_enter Try.func9, Try.ntmps9
  go_wp2_with fail
  refine (HF.out).mono ?_; rintro e w1 ⟨rfl, rfl⟩
  go_wp2_with fail
  go_ret
  exact ⟨rfl, rfl⟩
theorem ints2 {w : World} {b : Nat} {x y : Int} (fx : Fits x) (fy : Fits y) (c0 : w.cell? ⟨b, 0, none⟩ = some (.int .i64 x)) (c1 : w.cell? ⟨b, 1, none⟩ = some (.int .i64 y)) (hb : b < w.heap.size) : Ints w.heap.size w (.slice (some ⟨b, 0, none⟩) 2 2) [x, y] := by
  refine ⟨_, _, rfl, by simp, by omega, fun z hz => ?_, .inr ⟨b, 0, rfl, hb, fun j z hj => ?_⟩⟩
  · simp only [List.mem_cons, List.not_mem_nil, or_false] at hz
    rcases hz with rfl | rfl <;> assumption
  · match j, hj with
    | 0, hj => simp at hj; subst hj; exact c0
    | 1, hj => simp at hj; subst hj; exact c1
set_option maxRecDepth 100000 in
set_option maxHeartbeats 12800000 in
theorem law_FnBools (a : Option Addr) (len cap : Nat) (w : World) (hr : Row w.heap.size w a len) :
    Calls Try.prog 3 #[.slice a len cap] w fun e w' => e = .returned (.bool true) ∧ Below w.heap.size w w' := by
  go_enter Try.func3, Try.ntmps3
  go_wp2_with fail
  refine (drawFAdd_any a len cap w hr).mono ?_
  rintro e w1 ⟨p, q, rfl, fp, fq, be1⟩
  obtain ⟨x, hx⟩ : ∃ x, x = p % 2147483647 := ⟨_, rfl⟩
  obtain ⟨y, hy⟩ : ∃ y, y = q % 2147483647 := ⟨_, rfl⟩
  have lx : fl x := by unfold fl; omega
  have ly : fl y := by unfold fl; omega
  have FA := field_any p
  have FB := field_any q
  rw [← hx] at FA
  rw [← hy] at FB
  have HFA := Lib.hid FA
  have HFB := Lib.hid FB
  have HLX := Lib.hid lx
  have HLY := Lib.hid ly
  clear FA FB hx hy
  go_wp2_with fail
  refine (HFA.out _ fp).mono ?_; rintro e w2 ⟨rfl, rfl⟩
  go_wp2_with fail
  refine (HFB.out _ fq).mono ?_; rintro e w3 ⟨rfl, rfl⟩
  go_wp2_with fail
  refine name_call fun w2 hw2 => ?_
  have e2 : Below w1.heap.size w1 w2 := by rw [hw2]; (repeat (with_reducible first | exact bR _ _ | assumption | refine bD ?_ | refine bN ?_ _ | refine bA ?_ _ | refine bS ?_ _))
  have z2 : w1.heap.size + 1 ≤ w2.heap.size := by rw [hw2]; simp
  have cx2 : w2.cell? ⟨w1.heap.size, 0, none⟩ = some (.int .i64 x) := by rw [hw2]; first | (simp; done) | go_simp
  have cy2 : w2.cell? ⟨w1.heap.size, 1, none⟩ = some (.int .i64 y) := by rw [hw2]; first | (simp; done) | go_simp
  have be2 := be1.trans (e2.mono be1.size)
  clear hw2
  have fx : Fits x := by unfold fl at lx; unfold Fits; omega
  have fy : Fits y := by unfold fl at ly; unfold Fits; omega
  have ti2 := ints2 fx fy cx2 cy2 (by omega)
  refine (inputs_any w2.heap.size _ [x, y] w2 ti2 (Nat.le_refl _) (by simp)).mono ?_; rintro e w3 ⟨ur, rfl, f3, tl3⟩
  have z3 := f3.size
  have be3 := be2.trans (f3.mono be2.size)
  have cx3 := ck f3 cx2
  have cy3 := ck f3 cy2
  have tl : LinS false 0 w3.heap.size w3 ur [v1, v2] := tl3
  obtain ⟨al, kl, rfl, ll, lb⟩ := tl.shape
  obtain ⟨rb, ro, ua, ea, -, lrb, ca3, ta3⟩ := tl.at (j := 0) (by simp)
  obtain ⟨rb2, ro2, ub, eb, -, -, cb3, tb3⟩ := tl.at (j := 1) (by simp)
  subst ea
  simp only [Option.some.injEq, Addr.mk.injEq, and_true] at eb
  obtain ⟨rfl, rfl⟩ := eb
  obtain ⟨xa, ka, rfl, -, -⟩ := ta3.shape
  obtain ⟨xb, kb, rfl, -, -⟩ := tb3.shape
  have ta3' : Terms false 0 w3.heap.size w3 (.slice xa 1 ka) v1 := ta3
  have tb3' : Terms false 0 w3.heap.size w3 (.slice xb 1 kb) v2 := tb3
  rw [Nat.add_zero] at ca3
  have ca3' : w3.cell? ⟨rb, ro, none⟩ = some (.slice xa 1 ka) := ca3
  have cb3' : w3.cell? ⟨rb, ro + 1, none⟩ = some (.slice xb 1 kb) := cb3
  clear cx2 cy2 ti2 ca3 cb3 ta3 tb3 tl tl3 ll lb
  go_wp2_with fail
  refine name_wp fun w4 hw4 => ?_
  have e4 : Below w3.heap.size w3 w4 := by rw [hw4]; (repeat (with_reducible first | exact bR _ _ | assumption | refine bD ?_ | refine bN ?_ _ | refine bA ?_ _ | refine bS ?_ _))
  have z4 : w3.heap.size + 1 ≤ w4.heap.size := by rw [hw4]; simp
  have s0 : w4.cell? ⟨w3.heap.size, 0, none⟩ = some (.int .i64 2) := by rw [hw4]; first | (simp; done) | go_simp
  have s1 : w4.cell? ⟨w3.heap.size, 1, none⟩ = some (.slice none 0 0) := by rw [hw4]; first | (simp; done) | go_simp
  have s2 : w4.cell? ⟨w3.heap.size, 2, none⟩ = some (.slice none 0 0) := by rw [hw4]; first | (simp; done) | go_simp
  have s3 : w4.cell? ⟨w3.heap.size, 3, none⟩ = some (.slice none 0 0) := by rw [hw4]; first | (simp; done) | go_simp
  have be4 := be3.trans (e4.mono be3.size)
  have d4 : Below w4.heap.size w4 w4.drew := (Below.refl _ _).drew
  have e4d : Below w3.heap.size w3 w4.drew := e4.trans (d4.mono (by omega))
  have zd4 : w4.drew.heap.size = w4.heap.size := rfl
  have S0 := cell_keep d4 s0
  have S1 := cell_keep d4 s1
  have S2 := cell_keep d4 s2
  have S3 := cell_keep d4 s3
  have CA := cell_keep e4d ca3'
  have CB := cell_keep e4d cb3'
  have TA := ta3'.keep e4d (Nat.le_refl _)
  have TB := tb3'.keep e4d (Nat.le_refl _)
  have CX := cell_keep e4d cx3
  have CY := cell_keep e4d cy3
  clear hw4 s0 s1 s2 s3 ca3' cb3' ta3' tb3' cx3 cy3
  have F2 : Fits 2 := by unfold Fits; omega
  have Ho : Hid (true = (mayL (sysI 2) [v1] && bOk (boolB (sysI 2) ⟨[], [], 0⟩ v1))) := Lib.hid (by rw [tBool_may, tBool_ok]; rfl)
  have Hr : Hid (tBool = if mayL (sysI 2) [v1] = true then bSys (sysI 2) (boolB (sysI 2) ⟨[], [], 0⟩ v1) else sys0) := Lib.hid (by rw [if_pos tBool_may, tBool_is])
  have Ho2 : Hid (true = (mayL (sysI 2) [v1, v2] && bOk (eqB (sysI 2) ⟨[], [], 0⟩ v1 v2))) := Lib.hid (by rw [tEq_may, tEq_ok]; rfl)
  have Hr2 : Hid (tEq = if mayL (sysI 2) [v1, v2] = true then bSys (sysI 2) (eqB (sysI 2) ⟨[], [], 0⟩ v1 v2) else sys0) := Lib.hid (by rw [if_pos tEq_may, tEq_is])
  go_cut [8, 9] (fun s6 s7 wx => CutSB w4.drew tBool true s6 s7 wx)
  case first =>
    rename_i J K' hJ hK
    refine wp_region_drawn [8, 9, 31, 32, 33, 34, 35, 36, 37, 38] (fun d u wx => Below w4.drew.heap.size w4.drew wx ∧ (d 0 = true → u 32 = .agg #[.int .i64 2, .slice none 0 0, .slice none 0 0, .slice none 0 0]) ∧ (d 1 = true → u 33 = .slice (some ⟨rb, ro, none⟩) 2 kl) ∧ (d 2 = true → u 34 = .pointer (some ⟨rb, ro, none⟩)) ∧ (d 3 = true → u 35 = .agg #[.slice xa 1 ka]) ∧ ResSB w4.drew tBool true (d 4) (d 5) (d 6) (d 7) (d 8) (d 9) (d 10) (u 36) (u 31) (u 37) (u 38) (u 8) (u 9) wx) (by kernel_rfl) (by kernel_rfl) (by kernel_rfl) ?_ ?_ ?_
    · intro u; exact ⟨Below.refl _ _, vac rfl, vac rfl, vac rfl, vac rfl, ResSB.start⟩
    · refine ⟨?_, ?_, ?_, ?_, ?_, ?_, ?_, ?_, ?_, ?_, ?_, trivial⟩
      · intro d u wx h0 hd hF
        obtain ⟨hb, f0, f1, f2, f3, fR⟩ := hF
        have sz := hb.size
        refine Wpv.env fun ρ hin hout hcon hfun => ?_
        have E2 : ρ (.tmp 6) = .pointer (some ⟨w3.heap.size, 0, none⟩) := (hout 6 (by kernel_rfl)).trans (by kernel_rfl)
        clear hin hout
        have c0 := cell_keep hb S0
        have c1 := cell_keep hb S1
        have c2 := cell_keep hb S2
        have c3 := cell_keep hb S3
        refine Wpv.value (v := .agg #[.int .i64 2, .slice none 0 0, .slice none 0 0, .slice none 0 0]) (w' := wx) ?_ ⟨hb, fun _ => rfl, f1, f2, f3, fR⟩
        clear f0 f1 f2 f3 fR
        simp only [execOp]; rw [E2]; go_simp
      · intro d u wx h0 hd hF
        obtain ⟨hb, f0, f1, f2, f3, fR⟩ := hF
        have sz := hb.size
        refine Wpv.env fun ρ hin hout hcon hfun => ?_
        have E2 : ρ (.tmp 7) = .slice (some ⟨rb, ro, none⟩) 2 kl := (hout 7 (by kernel_rfl)).trans (by kernel_rfl)
        clear hin hout
        exact Wpv.value (v := .slice (some ⟨rb, ro, none⟩) 2 kl) (by simp only [execOp]; rw [E2]; rfl) ⟨hb, f0, fun _ => rfl, f2, f3, fR⟩
      · intro d u wx h0 hd hF
        obtain ⟨hb, f0, f1, f2, f3, fR⟩ := hF
        have sz := hb.size
        refine Wpv.env fun ρ hin hout hcon hfun => ?_
        have E2 := (hin 33 (by kernel_rfl)).trans (f1 (hd.get (j := 1) (by kernel_rfl)))
        clear hin hout
        refine Wpv.value (v := .pointer (some ⟨rb, ro, none⟩)) (w' := wx) ?_ ⟨hb, f0, f1, fun _ => rfl, f3, fR⟩
        clear f0 f1 f2 f3 fR
        go_simp
      · intro d u wx h0 hd hF
        obtain ⟨hb, f0, f1, f2, f3, fR⟩ := hF
        have sz := hb.size
        refine Wpv.env fun ρ hin hout hcon hfun => ?_
        have E2 := (hin 34 (by kernel_rfl)).trans (f2 (hd.get (j := 2) (by kernel_rfl)))
        clear hin hout
        have c0 := cell_keep hb CA
        refine Wpv.value (v := .agg #[.slice xa 1 ka]) (w' := wx) ?_ ⟨hb, f0, f1, f2, fun _ => rfl, fR⟩
        clear f0 f1 f2 f3 fR
        go_simp
      · intro d u wx h0 hd hF
        obtain ⟨hb, f0, f1, f2, f3, fR⟩ := hF
        have sz := hb.size
        refine Wpv.env fun ρ hin hout hcon hfun => ?_
        have E2 := (hin 32 (by kernel_rfl)).trans (f0 (hd.get (j := 0) (by kernel_rfl)))
        have A0 := (hin 35 (by kernel_rfl)).trans (f3 (hd.get (j := 3) (by kernel_rfl)))
        clear hin hout
        rw [h0] at fR
        refine Wpv.enter (f := 11) (args := #[.agg #[.int .i64 2, .slice none 0 0, .slice none 0 0, .slice none 0 0], .agg #[.slice xa 1 ka]]) (w' := wx) (by clear f0 f1 f2 f3 fR; go_simp) (addBool_impl false 0 0 _ _ _ _ (sysI 2) false 0 w3.heap.size _ v1 wx (sysI_R 2 F2 wx) (Nat.zero_le _) (sysI_small 2) (TA.keep hb (by omega)) (by omega) (by simp [v1]) true tBool Ho Hr) ?_
        intro e' w' hq
        obtain ⟨uu, hu, j1, hr⟩ := ResSB.main fR hb hq
        exact ⟨uu, hu, ⟨hb.trans (j1.mono sz), f0, f1, f2, f3, hr⟩⟩
      · intro d u wx h0 hd hF
        obtain ⟨hb, f0, f1, f2, f3, fR⟩ := hF
        have sz := hb.size
        refine Wpv.env fun ρ hin hout hcon hfun => ?_
        have E1 := hin 36 (by kernel_rfl)
        clear hin hout
        exact Wpv.value (v := u 36) (by simp only [execOp]; rw [E1]; rfl) ⟨hb, f0, f1, f2, f3, (ResSB.moveD (hd.get (j := 4) (by kernel_rfl)) fR)⟩
      · intro d u wx h0 hd hF
        obtain ⟨hb, f0, f1, f2, f3, fR⟩ := hF
        have sz := hb.size
        refine Wpv.env fun ρ hin hout hcon hfun => ?_
        have E1 := hin 31 (by kernel_rfl)
        clear hin hout
        have hm : d 5 = true := hd.get (j := 5) (by kernel_rfl)
        obtain ⟨x, b, e⟩ := ResSB.tupD hm fR
        have e1 := E1.trans e
        refine Wpv.value (v := x) (w' := wx) (by clear e E1 f0 f1 f2 f3 fR; go_simp) ⟨hb, f0, f1, f2, f3, (ResSB.ex0D hm e fR)⟩
      · intro d u wx h0 hd hF
        obtain ⟨hb, f0, f1, f2, f3, fR⟩ := hF
        have sz := hb.size
        refine Wpv.env fun ρ hin hout hcon hfun => ?_
        have E1 := hin 31 (by kernel_rfl)
        clear hin hout
        have hm : d 5 = true := hd.get (j := 5) (by kernel_rfl)
        obtain ⟨x, b, e⟩ := ResSB.tupD hm fR
        have e1 := E1.trans e
        refine Wpv.value (v := b) (w' := wx) (by clear e E1 f0 f1 f2 f3 fR; go_simp) ⟨hb, f0, f1, f2, f3, (ResSB.ex2D hm e fR)⟩
      · intro d u wx h0 hd hF
        obtain ⟨hb, f0, f1, f2, f3, fR⟩ := hF
        have sz := hb.size
        refine Wpv.env fun ρ hin hout hcon hfun => ?_
        clear hin hout
        rw [h0] at fR
        have j1 : Below wx.heap.size wx (wx.alloc (.cells #[.int .i64 0, .slice none 0 0, .slice none 0 0, .slice none 0 0] 31)) := balloc (Nat.le_refl _) (Below.refl _ _) _
        refine Wpv.value (v := .pointer (some ⟨wx.heap.size, 0, none⟩)) (w' := wx.alloc (.cells #[.int .i64 0, .slice none 0 0, .slice none 0 0, .slice none 0 0] 31)) (by clear f0 f1 f2 f3 fR; go_simp) ⟨hb.trans (j1.mono sz), f0, f1, f2, f3, fR.boxA hb⟩
      · intro d u wx h0 hd hF
        obtain ⟨hb, f0, f1, f2, f3, fR⟩ := hF
        have sz := hb.size
        refine Wpv.env fun ρ hin hout hcon hfun => ?_
        have Ea := hin 8 (by kernel_rfl)
        have Eb := hin 37 (by kernel_rfl)
        clear hin hout
        obtain ⟨gg, n0, a1, n1, k1, a2, n2, k2, a3, n3, k3, z0, z1, z2, z3, e1, e2, fr, bx⟩ := ResSB.preAD (hd.get (j := 6) (by kernel_rfl)) (hd.get (j := 8) (by kernel_rfl)) fR
        obtain ⟨c0, c1, c2, c3⟩ := id bx
        obtain ⟨r0, r1, r2, r3⟩ := id fr
        obtain ⟨lg, fR'⟩ := ResSB.setAD (hd.get (j := 6) (by kernel_rfl)) (hd.get (j := 8) (by kernel_rfl)) e1 e2 fR
        have y1 := Ea.trans e1
        have y2 := Eb.trans e2
        refine Wpv.skip (w' := set4 wx gg (.int .i64 n0) (.slice a1 n1 k1) (.slice a2 n2 k2) (.slice a3 n3 k3)) (by unfold set4; clear fR' e1 e2 Ea Eb bx fr f0 f1 f2 f3 fR; go_simp) ?_
        exact ⟨set4_below hb lg _ _ _ _, f0, f1, f2, f3, fR'⟩
      · intro d u wx h0 hd hF
        obtain ⟨hb, f0, f1, f2, f3, fR⟩ := hF
        have sz := hb.size
        refine Wpv.env fun ρ hin hout hcon hfun => ?_
        have E1 := hin 38 (by kernel_rfl)
        clear hin hout
        exact Wpv.value (v := u 38) (by simp only [execOp]; rw [E1]; rfl) ⟨hb, f0, f1, f2, f3, (ResSB.finD (hd.get (j := 7) (by kernel_rfl)) fR)⟩
    · intro d u wx hall hF
      obtain ⟨hb, f0, f1, f2, f3, fR⟩ := hF
      have fC := ResSB.cutD fR hb (hall 4 (by decide)) (hall 8 (by decide)) (hall 9 (by decide)) (hall 10 (by decide))
      clear f0 f1 f2 f3 fR
      refine hK _ _ (Met.intro (hJ _ _ ?_))
      simp only [setF, List.foldl_cons, List.foldl_nil, Act.put, List.setIfInBounds_toArray, List.set_cons_zero, List.set_cons_succ]
      repeat apply Exists.intro
      exact ⟨fC, rfl⟩
  obtain ⟨gT, uiT, uoT, uhT, ucT, rfl, rfl, hgT, ⟨b0T, b1T, b2T, b3T⟩, tT, BT⟩ := hcut
  obtain ⟨aoT, koT, ahT, khT, acT, kcT, rfl, rfl, rfl, rfl, -⟩ := id tT.shape
  obtain ⟨w5, hw5⟩ : ∃ x, x = wc := ⟨_, rfl⟩
  subst hw5
  have z5 := BT.size
  have be5 : Below w.heap.size w w5 := be4.trans ((d4.trans BT).mono be4.size)
  have S0' := cell_keep BT S0
  have S1' := cell_keep BT S1
  have S2' := cell_keep BT S2
  have S3' := cell_keep BT S3
  have CA' := cell_keep BT CA
  have CB' := cell_keep BT CB
  have TA' := TA.keep BT (by omega)
  have TB' := TB.keep BT (by omega)
  have CX' := cell_keep BT CX
  have CY' := cell_keep BT CY
  clear S0 S1 S2 S3 CA CB TA TB CX CY Ho Hr
  have lgT : gT < w5.heap.size := World.block_lt_of_cell? _ _ b0T
  obtain ⟨B1, hB1⟩ : ∃ B, decide (x < 2) = B := ⟨_, rfl⟩
  obtain ⟨B2, hB2⟩ : ∃ B, (x == y) = B := ⟨_, rfl⟩
  have q1 : solB tBool [x, y] = B1 := by rw [solB_bool lx ly, hB1]
  have q2 : solB tEq [x, y] = B2 := by rw [solB_eq lx ly, ← hB2]; rfl
  have ti5 := ints2 fx fy CX' CY' (by omega)
  have TD := Lib.hid (told_any false 0 w5.heap.size _ _ _ _ tBool w5.heap.size _ [x, y] false 0 0 _ [] w5 tT (Nat.le_refl _) ti5 (Nat.le_refl _) LinS.nil (Nat.zero_le _) (by simp) (by simp [tBool]) (by simp [tBool]) (by simp [tBool]) (by simp) (fun _ z hz => by simp at hz) B1 q1 [] (by unfold toldL; split <;> rfl))
  have HB1 := Lib.hid hB1
  have HB2 := Lib.hid hB2
  clear ti5 q1 hB1 hB2
  go_wp2_with fail
  refine (TD.out).mono ?_; rintro e w6 ⟨u6, rfl, f6, n6⟩
  have z6 := f6.size
  have be6 := be5.trans (f6.mono be5.size)
  obtain ⟨y6, k6, rfl, -, -⟩ := n6.shape
  have d6 : Below w6.heap.size w6 w6.drew := (Below.refl _ _).drew
  have f6d : Below w5.heap.size w5 w6.drew := f6.trans (d6.mono (by omega))
  have zd6 : w6.drew.heap.size = w6.heap.size := rfl
  have S0 := cell_keep f6d S0'
  have S1 := cell_keep f6d S1'
  have S2 := cell_keep f6d S2'
  have S3 := cell_keep f6d S3'
  have CA := cell_keep f6d CA'
  have CB := cell_keep f6d CB'
  have TA := TA'.keep f6d (by omega)
  have TB := TB'.keep f6d (by omega)
  have CX := cell_keep f6d CX'
  have CY := cell_keep f6d CY'
  have T0 := cell_keep f6d b0T
  have T1 := cell_keep f6d b1T
  have T2 := cell_keep f6d b2T
  have T3 := cell_keep f6d b3T
  have TT := tT.keep f6d (Nat.le_refl _)
  clear S0' S1' S2' S3' CA' CB' TA' TB' CX' CY' b0T b1T b2T b3T tT TD n6
  go_wp2_with fail
  go_cut [12, 13] (fun s6 s7 wx => CutSB w6.drew tEq true s6 s7 wx)
  case first =>
    rename_i J K' hJ hK
    refine wp_region_drawn [12, 13, 45, 46, 47, 48, 49, 50, 51, 52, 53, 54, 55] (fun d u wx => Below w6.drew.heap.size w6.drew wx ∧ (d 0 = true → u 46 = .agg #[.int .i64 2, .slice none 0 0, .slice none 0 0, .slice none 0 0]) ∧ (d 1 = true → u 47 = .slice (some ⟨rb, ro, none⟩) 2 kl) ∧ (d 2 = true → u 48 = .pointer (some ⟨rb, ro, none⟩)) ∧ (d 3 = true → u 49 = .agg #[.slice xa 1 ka]) ∧ (d 4 = true → u 50 = .slice (some ⟨rb, ro, none⟩) 2 kl) ∧ (d 5 = true → u 51 = .pointer (some ⟨rb, ro + 1, none⟩)) ∧ (d 6 = true → u 52 = .agg #[.slice xb 1 kb]) ∧ ResSB w6.drew tEq true (d 7) (d 8) (d 9) (d 10) (d 11) (d 12) (d 13) (u 53) (u 45) (u 54) (u 55) (u 12) (u 13) wx) (by kernel_rfl) (by kernel_rfl) (by kernel_rfl) ?_ ?_ ?_
    · intro u; exact ⟨Below.refl _ _, vac rfl, vac rfl, vac rfl, vac rfl, vac rfl, vac rfl, vac rfl, ResSB.start⟩
    · refine ⟨?_, ?_, ?_, ?_, ?_, ?_, ?_, ?_, ?_, ?_, ?_, ?_, ?_, ?_, trivial⟩
      · intro d u wx h0 hd hF
        obtain ⟨hb, f0, f1, f2, f3, f4, f5, f6, fR⟩ := hF
        have sz := hb.size
        refine Wpv.env fun ρ hin hout hcon hfun => ?_
        have E2 : ρ (.tmp 6) = .pointer (some ⟨w3.heap.size, 0, none⟩) := (hout 6 (by kernel_rfl)).trans (by kernel_rfl)
        clear hin hout
        have c0 := cell_keep hb S0
        have c1 := cell_keep hb S1
        have c2 := cell_keep hb S2
        have c3 := cell_keep hb S3
        refine Wpv.value (v := .agg #[.int .i64 2, .slice none 0 0, .slice none 0 0, .slice none 0 0]) (w' := wx) ?_ ⟨hb, fun _ => rfl, f1, f2, f3, f4, f5, f6, fR⟩
        clear f0 f1 f2 f3 f4 f5 f6 fR
        simp only [execOp]; rw [E2]; go_simp
      · intro d u wx h0 hd hF
        obtain ⟨hb, f0, f1, f2, f3, f4, f5, f6, fR⟩ := hF
        have sz := hb.size
        refine Wpv.env fun ρ hin hout hcon hfun => ?_
        have E2 : ρ (.tmp 7) = .slice (some ⟨rb, ro, none⟩) 2 kl := (hout 7 (by kernel_rfl)).trans (by kernel_rfl)
        clear hin hout
        exact Wpv.value (v := .slice (some ⟨rb, ro, none⟩) 2 kl) (by simp only [execOp]; rw [E2]; rfl) ⟨hb, f0, fun _ => rfl, f2, f3, f4, f5, f6, fR⟩
      · intro d u wx h0 hd hF
        obtain ⟨hb, f0, f1, f2, f3, f4, f5, f6, fR⟩ := hF
        have sz := hb.size
        refine Wpv.env fun ρ hin hout hcon hfun => ?_
        have E2 := (hin 47 (by kernel_rfl)).trans (f1 (hd.get (j := 1) (by kernel_rfl)))
        clear hin hout
        refine Wpv.value (v := .pointer (some ⟨rb, ro, none⟩)) (w' := wx) ?_ ⟨hb, f0, f1, fun _ => rfl, f3, f4, f5, f6, fR⟩
        clear f0 f1 f2 f3 f4 f5 f6 fR
        go_simp
      · intro d u wx h0 hd hF
        obtain ⟨hb, f0, f1, f2, f3, f4, f5, f6, fR⟩ := hF
        have sz := hb.size
        refine Wpv.env fun ρ hin hout hcon hfun => ?_
        have E2 := (hin 48 (by kernel_rfl)).trans (f2 (hd.get (j := 2) (by kernel_rfl)))
        clear hin hout
        have c0 := cell_keep hb CA
        refine Wpv.value (v := .agg #[.slice xa 1 ka]) (w' := wx) ?_ ⟨hb, f0, f1, f2, fun _ => rfl, f4, f5, f6, fR⟩
        clear f0 f1 f2 f3 f4 f5 f6 fR
        go_simp
      · intro d u wx h0 hd hF
        obtain ⟨hb, f0, f1, f2, f3, f4, f5, f6, fR⟩ := hF
        have sz := hb.size
        refine Wpv.env fun ρ hin hout hcon hfun => ?_
        have E2 : ρ (.tmp 7) = .slice (some ⟨rb, ro, none⟩) 2 kl := (hout 7 (by kernel_rfl)).trans (by kernel_rfl)
        clear hin hout
        exact Wpv.value (v := .slice (some ⟨rb, ro, none⟩) 2 kl) (by simp only [execOp]; rw [E2]; rfl) ⟨hb, f0, f1, f2, f3, fun _ => rfl, f5, f6, fR⟩
      · intro d u wx h0 hd hF
        obtain ⟨hb, f0, f1, f2, f3, f4, f5, f6, fR⟩ := hF
        have sz := hb.size
        refine Wpv.env fun ρ hin hout hcon hfun => ?_
        have E2 := (hin 50 (by kernel_rfl)).trans (f4 (hd.get (j := 4) (by kernel_rfl)))
        clear hin hout
        refine Wpv.value (v := .pointer (some ⟨rb, ro + 1, none⟩)) (w' := wx) ?_ ⟨hb, f0, f1, f2, f3, f4, fun _ => rfl, f6, fR⟩
        clear f0 f1 f2 f3 f4 f5 f6 fR
        go_simp
      · intro d u wx h0 hd hF
        obtain ⟨hb, f0, f1, f2, f3, f4, f5, f6, fR⟩ := hF
        have sz := hb.size
        refine Wpv.env fun ρ hin hout hcon hfun => ?_
        have E2 := (hin 51 (by kernel_rfl)).trans (f5 (hd.get (j := 5) (by kernel_rfl)))
        clear hin hout
        have c0 := cell_keep hb CB
        refine Wpv.value (v := .agg #[.slice xb 1 kb]) (w' := wx) ?_ ⟨hb, f0, f1, f2, f3, f4, f5, fun _ => rfl, fR⟩
        clear f0 f1 f2 f3 f4 f5 f6 fR
        go_simp
      · intro d u wx h0 hd hF
        obtain ⟨hb, f0, f1, f2, f3, f4, f5, f6, fR⟩ := hF
        have sz := hb.size
        refine Wpv.env fun ρ hin hout hcon hfun => ?_
        have E2 := (hin 46 (by kernel_rfl)).trans (f0 (hd.get (j := 0) (by kernel_rfl)))
        have A0 := (hin 49 (by kernel_rfl)).trans (f3 (hd.get (j := 3) (by kernel_rfl)))
        have A1 := (hin 52 (by kernel_rfl)).trans (f6 (hd.get (j := 6) (by kernel_rfl)))
        clear hin hout
        rw [h0] at fR
        refine Wpv.enter (f := 13) (args := #[.agg #[.int .i64 2, .slice none 0 0, .slice none 0 0, .slice none 0 0], .agg #[.slice xa 1 ka], .agg #[.slice xb 1 kb]]) (w' := wx) (by clear f0 f1 f2 f3 f4 f5 f6 fR; go_simp) (addEq_impl false 0 0 _ _ _ _ (sysI 2) false 0 w3.heap.size _ v1 false 0 w3.heap.size _ v2 wx (sysI_R 2 F2 wx) (Nat.zero_le _) (sysI_small 2) (TA.keep hb (by omega)) (by omega) (TB.keep hb (by omega)) (by omega) (by simp [v1]) (by simp [v2]) true tEq Ho2 Hr2) ?_
        intro e' w' hq
        obtain ⟨uu, hu, j1, hr⟩ := ResSB.main fR hb hq
        exact ⟨uu, hu, ⟨hb.trans (j1.mono sz), f0, f1, f2, f3, f4, f5, f6, hr⟩⟩
      · intro d u wx h0 hd hF
        obtain ⟨hb, f0, f1, f2, f3, f4, f5, f6, fR⟩ := hF
        have sz := hb.size
        refine Wpv.env fun ρ hin hout hcon hfun => ?_
        have E1 := hin 53 (by kernel_rfl)
        clear hin hout
        exact Wpv.value (v := u 53) (by simp only [execOp]; rw [E1]; rfl) ⟨hb, f0, f1, f2, f3, f4, f5, f6, (ResSB.moveD (hd.get (j := 7) (by kernel_rfl)) fR)⟩
      · intro d u wx h0 hd hF
        obtain ⟨hb, f0, f1, f2, f3, f4, f5, f6, fR⟩ := hF
        have sz := hb.size
        refine Wpv.env fun ρ hin hout hcon hfun => ?_
        have E1 := hin 45 (by kernel_rfl)
        clear hin hout
        have hm : d 8 = true := hd.get (j := 8) (by kernel_rfl)
        obtain ⟨x, b, e⟩ := ResSB.tupD hm fR
        have e1 := E1.trans e
        refine Wpv.value (v := x) (w' := wx) (by clear e E1 f0 f1 f2 f3 f4 f5 f6 fR; go_simp) ⟨hb, f0, f1, f2, f3, f4, f5, f6, (ResSB.ex0D hm e fR)⟩
      · intro d u wx h0 hd hF
        obtain ⟨hb, f0, f1, f2, f3, f4, f5, f6, fR⟩ := hF
        have sz := hb.size
        refine Wpv.env fun ρ hin hout hcon hfun => ?_
        have E1 := hin 45 (by kernel_rfl)
        clear hin hout
        have hm : d 8 = true := hd.get (j := 8) (by kernel_rfl)
        obtain ⟨x, b, e⟩ := ResSB.tupD hm fR
        have e1 := E1.trans e
        refine Wpv.value (v := b) (w' := wx) (by clear e E1 f0 f1 f2 f3 f4 f5 f6 fR; go_simp) ⟨hb, f0, f1, f2, f3, f4, f5, f6, (ResSB.ex2D hm e fR)⟩
      · intro d u wx h0 hd hF
        obtain ⟨hb, f0, f1, f2, f3, f4, f5, f6, fR⟩ := hF
        have sz := hb.size
        refine Wpv.env fun ρ hin hout hcon hfun => ?_
        clear hin hout
        rw [h0] at fR
        have j1 : Below wx.heap.size wx (wx.alloc (.cells #[.int .i64 0, .slice none 0 0, .slice none 0 0, .slice none 0 0] 31)) := balloc (Nat.le_refl _) (Below.refl _ _) _
        refine Wpv.value (v := .pointer (some ⟨wx.heap.size, 0, none⟩)) (w' := wx.alloc (.cells #[.int .i64 0, .slice none 0 0, .slice none 0 0, .slice none 0 0] 31)) (by clear f0 f1 f2 f3 f4 f5 f6 fR; go_simp) ⟨hb.trans (j1.mono sz), f0, f1, f2, f3, f4, f5, f6, fR.boxA hb⟩
      · intro d u wx h0 hd hF
        obtain ⟨hb, f0, f1, f2, f3, f4, f5, f6, fR⟩ := hF
        have sz := hb.size
        refine Wpv.env fun ρ hin hout hcon hfun => ?_
        have Ea := hin 12 (by kernel_rfl)
        have Eb := hin 54 (by kernel_rfl)
        clear hin hout
        obtain ⟨gg, n0, a1, n1, k1, a2, n2, k2, a3, n3, k3, z0, z1, z2, z3, e1, e2, fr, bx⟩ := ResSB.preAD (hd.get (j := 9) (by kernel_rfl)) (hd.get (j := 11) (by kernel_rfl)) fR
        obtain ⟨c0, c1, c2, c3⟩ := id bx
        obtain ⟨r0, r1, r2, r3⟩ := id fr
        obtain ⟨lg, fR'⟩ := ResSB.setAD (hd.get (j := 9) (by kernel_rfl)) (hd.get (j := 11) (by kernel_rfl)) e1 e2 fR
        have y1 := Ea.trans e1
        have y2 := Eb.trans e2
        refine Wpv.skip (w' := set4 wx gg (.int .i64 n0) (.slice a1 n1 k1) (.slice a2 n2 k2) (.slice a3 n3 k3)) (by unfold set4; clear fR' e1 e2 Ea Eb bx fr f0 f1 f2 f3 f4 f5 f6 fR; go_simp) ?_
        exact ⟨set4_below hb lg _ _ _ _, f0, f1, f2, f3, f4, f5, f6, fR'⟩
      · intro d u wx h0 hd hF
        obtain ⟨hb, f0, f1, f2, f3, f4, f5, f6, fR⟩ := hF
        have sz := hb.size
        refine Wpv.env fun ρ hin hout hcon hfun => ?_
        have E1 := hin 55 (by kernel_rfl)
        clear hin hout
        exact Wpv.value (v := u 55) (by simp only [execOp]; rw [E1]; rfl) ⟨hb, f0, f1, f2, f3, f4, f5, f6, (ResSB.finD (hd.get (j := 10) (by kernel_rfl)) fR)⟩
    · intro d u wx hall hF
      obtain ⟨hb, f0, f1, f2, f3, f4, f5, f6, fR⟩ := hF
      have fC := ResSB.cutD fR hb (hall 7 (by decide)) (hall 11 (by decide)) (hall 12 (by decide)) (hall 13 (by decide))
      clear f0 f1 f2 f3 f4 f5 f6 fR
      refine hK _ _ (Met.intro (hJ _ _ ?_))
      simp only [setF, List.foldl_cons, List.foldl_nil, Act.put, List.setIfInBounds_toArray, List.set_cons_zero, List.set_cons_succ]
      repeat apply Exists.intro
      exact ⟨fC, rfl⟩
  obtain ⟨gU, uiU, uoU, uhU, ucU, rfl, rfl, hgU, ⟨b0U, b1U, b2U, b3U⟩, tU, BU⟩ := hcut
  obtain ⟨aoU, koU, ahU, khU, acU, kcU, rfl, rfl, rfl, rfl, -⟩ := id tU.shape
  obtain ⟨w7, hw7⟩ : ∃ x, x = wc := ⟨_, rfl⟩
  subst hw7
  have z7 := BU.size
  have be7 : Below w.heap.size w w7 := be6.trans ((d6.trans BU).mono be6.size)
  have S0' := cell_keep BU S0
  have S1' := cell_keep BU S1
  have S2' := cell_keep BU S2
  have S3' := cell_keep BU S3
  have CX' := cell_keep BU CX
  have CY' := cell_keep BU CY
  have T0' := cell_keep BU T0
  have T1' := cell_keep BU T1
  have T2' := cell_keep BU T2
  have T3' := cell_keep BU T3
  have TT' := TT.keep BU (by omega)
  clear S0 S1 S2 S3 CA CB TA TB CX CY T0 T1 T2 T3 TT Ho2 Hr2
  have lgU : gU < w7.heap.size := World.block_lt_of_cell? _ _ b0U
  have ti7 := ints2 fx fy CX' CY' (by omega)
  have TD := Lib.hid (told_any false 0 w7.heap.size _ _ _ _ tEq w7.heap.size _ [x, y] false 0 0 _ [] w7 tU (Nat.le_refl _) ti7 (Nat.le_refl _) LinS.nil (Nat.zero_le _) (by simp) (by simp [tEq]) (by simp [tEq]) (by simp [tEq]) (by simp) (fun _ z hz => by simp at hz) B2 q2 [] (by unfold toldL; split <;> rfl))
  clear ti7 q2
  go_wp2_with fail
  refine (TD.out).mono ?_; rintro e w8 ⟨u8, rfl, f8, n8⟩
  have z8 := f8.size
  have be8 := be7.trans (f8.mono be7.size)
  obtain ⟨y8, k8, rfl, -, -⟩ := n8.shape
  have d8 : Below w8.heap.size w8 w8.drew := (Below.refl _ _).drew
  have f8d : Below w7.heap.size w7 w8.drew := f8.trans (d8.mono (by omega))
  have zd8 : w8.drew.heap.size = w8.heap.size := rfl
  have S0 : w8.drew.cell? ⟨w3.heap.size, 0, none⟩ = some (.int .i64 2) := cell_keep f8d S0'
  have S1 : w8.drew.cell? ⟨w3.heap.size, 1, none⟩ = some (.slice none 0 0) := cell_keep f8d S1'
  have S2 : w8.drew.cell? ⟨w3.heap.size, 2, none⟩ = some (.slice none 0 0) := cell_keep f8d S2'
  have S3 : w8.drew.cell? ⟨w3.heap.size, 3, none⟩ = some (.slice none 0 0) := cell_keep f8d S3'
  have CX : w8.drew.cell? ⟨w1.heap.size, 0, none⟩ = some (.int .i64 x) := cell_keep f8d CX'
  have CY : w8.drew.cell? ⟨w1.heap.size, 1, none⟩ = some (.int .i64 y) := cell_keep f8d CY'
  have T0 : w8.drew.cell? ⟨gT, 0, none⟩ = some (.int .i64 tBool.ins) := cell_keep f8d T0'
  have T1 : w8.drew.cell? ⟨gT, 1, none⟩ = some (.slice aoT tBool.outs.length koT) := cell_keep f8d T1'
  have T2 : w8.drew.cell? ⟨gT, 2, none⟩ = some (.slice ahT tBool.hints.length khT) := cell_keep f8d T2'
  have T3 : w8.drew.cell? ⟨gT, 3, none⟩ = some (.slice acT tBool.cons.length kcT) := cell_keep f8d T3'
  have U0 : w8.drew.cell? ⟨gU, 0, none⟩ = some (.int .i64 tEq.ins) := cell_keep f8d b0U
  have U1 : w8.drew.cell? ⟨gU, 1, none⟩ = some (.slice aoU tEq.outs.length koU) := cell_keep f8d b1U
  have U2 : w8.drew.cell? ⟨gU, 2, none⟩ = some (.slice ahU tEq.hints.length khU) := cell_keep f8d b2U
  have U3 : w8.drew.cell? ⟨gU, 3, none⟩ = some (.slice acU tEq.cons.length kcU) := cell_keep f8d b3U
  have TT := TT'.keep f8d (by omega)
  have TU := tU.keep f8d (Nat.le_refl _)
  clear S0' S1' S2' S3' CX' CY' T0' T1' T2' T3' b0U b1U b2U b3U TT' tU TD n8
  have GT := Lib.hid (grown_yes 0 _ _ _ _ w5.heap.size _ _ _ _ (sysI 2) tBool w8.drew (sysI_R 2 F2 _) (Nat.zero_le _) TT (by omega) sysI2_sys tBool_sys rfl rfl (H := []) rfl (C := tBool.cons) rfl)
  have GU := Lib.hid fun (v1 : World) (j1 : Below w8.drew.heap.size w8.drew v1) => grown_yes 0 _ _ _ _ w7.heap.size _ _ _ _ (sysI 2) tEq v1 (sysI_R 2 F2 _) (Nat.zero_le _) (TU.keep j1 (by omega)) (by have := j1.size; omega) sysI2_sys tEq_sys rfl rfl (H := []) rfl (C := tEq.cons) rfl
  clear TT TU
  have hB1 := HB1.out
  have hB2 := HB2.out
  have bb1 : (B1 == B1) = true := by simp
  have bb2 : (B2 == B2) = true := by simp
  have lS : w3.heap.size < w8.drew.heap.size := World.block_lt_of_cell? _ _ S0
  have lT : gT < w8.drew.heap.size := World.block_lt_of_cell? _ _ T0
  have lU : gU < w8.drew.heap.size := World.block_lt_of_cell? _ _ U0
  go_wp2_with fail
  go_region_held3 (fun w' => w'.cell? ⟨w3.heap.size, 0, none⟩ = some (.int .i64 2) ∧ w'.cell? ⟨w3.heap.size, 1, none⟩ = some (.slice none 0 0) ∧ w'.cell? ⟨w3.heap.size, 2, none⟩ = some (.slice none 0 0) ∧ w'.cell? ⟨w3.heap.size, 3, none⟩ = some (.slice none 0 0) ∧ w'.cell? ⟨w1.heap.size, 0, none⟩ = some (.int .i64 x) ∧ w'.cell? ⟨w1.heap.size, 1, none⟩ = some (.int .i64 y) ∧ w'.cell? ⟨gT, 0, none⟩ = some (.int .i64 tBool.ins) ∧ w'.cell? ⟨gT, 1, none⟩ = some (.slice aoT tBool.outs.length koT) ∧ w'.cell? ⟨gT, 2, none⟩ = some (.slice ahT tBool.hints.length khT) ∧ w'.cell? ⟨gT, 3, none⟩ = some (.slice acT tBool.cons.length kcT) ∧ w'.cell? ⟨gU, 0, none⟩ = some (.int .i64 tEq.ins) ∧ w'.cell? ⟨gU, 1, none⟩ = some (.slice aoU tEq.outs.length koU) ∧ w'.cell? ⟨gU, 2, none⟩ = some (.slice ahU tEq.hints.length khU) ∧ w'.cell? ⟨gU, 3, none⟩ = some (.slice acU tEq.cons.length kcU)) (first | exact ⟨S0, S1, S2, S3, CX, CY, T0, T1, T2, T3, U0, U1, U2, U3⟩ | exact ⟨ck j1 S0, ck j1 S1, ck j1 S2, ck j1 S3, ck j1 CX, ck j1 CY, ck j1 T0, ck j1 T1, ck j1 T2, ck j1 T3, ck j1 U0, ck j1 U1, ck j1 U2, ck j1 U3⟩ | exact ⟨ck j2 (ck j1 S0), ck j2 (ck j1 S1), ck j2 (ck j1 S2), ck j2 (ck j1 S3), ck j2 (ck j1 CX), ck j2 (ck j1 CY), ck j2 (ck j1 T0), ck j2 (ck j1 T1), ck j2 (ck j1 T2), ck j2 (ck j1 T3), ck j2 (ck j1 U0), ck j2 (ck j1 U1), ck j2 (ck j1 U2), ck j2 (ck j1 U3)⟩)
    (first
      | (go_at_call 14; (with_reducible refine GT.out.mono ?_); rintro e v1 ⟨rfl, j1⟩)
      | (go_at_call 14; (with_reducible refine (GU.out v1 j1).mono ?_); rintro e v2 ⟨rfl, j2⟩))
  go_wp2_with fail
  go_ret
  exact ⟨rfl, be8.trans ((d8.trans ((j1.trans (j2.mono j1.size)))).mono be8.size)⟩
end Go.Proofs.Ytghjcedhoeoiiaa.L
