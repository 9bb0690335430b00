/- FnZeros: a value is told to be zero exactly if it is, and no other assignment tells otherwise (written by tools/gen/gatez.py). -/
import Derived.Test.YtghjcedhoeoiiaaGateM
import Derived.Test.YtghjcedhoeoiiaaGateY
import Derived.Test.YtghjcedhoeoiiaaAddZ
import Derived.Test.YtghjcedhoeoiiaaSolveB
import Derived.Test.YtghjcedhoeoiiaaB9
namespace Go.Proofs.Ytghjcedhoeoiiaa.L
open Go.RowKit Go.Proofs.Ytghjcedhoeoiiaa.S
set_option linter.unusedVariables false
set_option linter.unusedSimpArgs false

theorem ints1 {w : World} {b : Nat} {x : Int} (fx : Fits x) (c0 : w.cell? ⟨b, 0, none⟩ = some (.int .i64 x)) (hb : b < w.heap.size) : Ints w.heap.size w (.slice (some ⟨b, 0, none⟩) 1 1) [x] := by
  refine ⟨_, _, rfl, by simp, by omega, fun z hz => ?_, .inr ⟨b, 0, rfl, hb, fun j z hj => ?_⟩⟩
  · rw [List.mem_singleton] at hz; rw [hz]; exact fx
  · match j, hj with
    | 0, hj => simp at hj; subst hj; exact c0
theorem row_made2 (w0 : Nat) (t : TypeId) (w : World) (h : w0 ≤ w.heap.size) : (w.alloc (.cells #[] t)).ownsRow w0 t 1 (.slice (some ⟨w.heap.size, 0, none⟩) 0 0) 0 (iv2 []) :=
  World.ownsRow_made (base := w0) (size := 1) (e := t) w #[] 0 (by first | exact h | simp) (Nat.zero_le _) (by first | exact h | simp)
theorem ints_fits2 {lim : Nat} {w : World} {v : Value} {xs : List Int} (t : Ints lim w v xs) : ∀ x ∈ xs, S.Fits x := by obtain ⟨_, _, _, _, _, h, _⟩ := t; exact h
theorem set_two (x i p y : Int) {k : Nat} (h2 : 2 ≤ k) (h4 : k < 4) : ∃ i' p', [1, x, i, p].set k y = [1, x, i', p'] ∧ (i' = i ∨ p' = p) := by
  match k, h2, h4 with
  | 2, _, _ => exact ⟨y, p, rfl, .inr rfl⟩
  | 3, _, _ => exact ⟨i, y, rfl, .inl rfl⟩
set_option maxRecDepth 100000 in
set_option maxHeartbeats 12800000 in
theorem law_FnZeros (a : Option Addr) (len cap : Nat) (w : World) (hr : Row w.heap.size w a len) :
    Calls Try.prog 5 #[.slice a len cap] w fun e w' => e = .returned (.bool true) ∧ Below w.heap.size w w' := by
  go_enter Try.func5, Try.ntmps5
  go_wp2_with fail
  refine (drawFAdd_any a len cap w hr).mono ?_
  rintro e w1 ⟨p, q, rfl, fp, fq, be1⟩
  obtain ⟨x, hx⟩ : ∃ x, x = p % 2147483647 := ⟨_, rfl⟩
  obtain ⟨y, hy⟩ : ∃ y, y = q % 2147483647 := ⟨_, rfl⟩
  have lx : fl x := by unfold fl; omega
  have ly : fl y := by unfold fl; omega
  have FA := field_any p
  have FB := field_any q
  rw [← hx] at FA
  rw [← hy] at FB
  have HFA := Lib.hid FA
  have HFB := Lib.hid fun w => FB w fq
  have HLX := Lib.hid lx
  have HLY := Lib.hid ly
  clear FA FB hx hy
  go_wp2_with fail
  refine (HFA.out _ fp).mono ?_; rintro e w2 ⟨rfl, rfl⟩
  go_wp2_with fail
  refine name_call fun w2 hw2 => ?_
  have e2 : Below w1.heap.size w1 w2 := by rw [hw2]; (repeat (with_reducible first | exact bR _ _ | assumption | refine bD ?_ | refine bN ?_ _ | refine bA ?_ _ | refine bS ?_ _))
  have z2 : w1.heap.size + 1 ≤ w2.heap.size := by rw [hw2]; simp
  have cx2 : w2.cell? ⟨w1.heap.size, 0, none⟩ = some (.int .i64 x) := by rw [hw2]; first | (simp; done) | go_simp
  have be2 := be1.trans (e2.mono be1.size)
  clear hw2
  have fx : Fits x := by unfold fl at lx; unfold Fits; omega
  have fy : Fits y := by unfold fl at ly; unfold Fits; omega
  clear lx ly
  have ti2 := ints1 fx cx2 (by omega)
  refine (inputs_any w2.heap.size _ [x] w2 ti2 (Nat.le_refl _) (by simp)).mono ?_; rintro e w3 ⟨ur, rfl, f3, tl3⟩
  have z3 := f3.size
  have be3 := be2.trans (f3.mono be2.size)
  have cx := ck f3 cx2
  have tl : LinS false 0 w3.heap.size w3 ur [v1] := tl3
  obtain ⟨al, kl, rfl, ll, lb⟩ := tl.shape
  obtain ⟨rb, ro, ua, ea, -, lrb, ca, ta⟩ := tl.at (j := 0) (by simp)
  subst ea
  obtain ⟨xa, ka, rfl, -, -⟩ := ta.shape
  rw [Nat.add_zero] at ca
  have ta' : Terms false 0 w3.heap.size w3 (.slice xa 1 ka) v1 := ta
  have ca' : w3.cell? ⟨rb, ro, none⟩ = some (.slice xa 1 ka) := ca
  clear cx2 ti2 ca ta tl tl3 ll lb
  go_wp2_with fail
  refine name_wp fun w4 hw4 => ?_
  have e4 : Below w3.heap.size w3 w4 := by rw [hw4]; (repeat (with_reducible first | exact bR _ _ | assumption | refine bD ?_ | refine bN ?_ _ | refine bA ?_ _ | refine bS ?_ _))
  have z4 : w3.heap.size + 1 ≤ w4.heap.size := by rw [hw4]; simp
  have s0 : w4.cell? ⟨w3.heap.size, 0, none⟩ = some (.int .i64 1) := by rw [hw4]; first | (simp; done) | go_simp
  have s1 : w4.cell? ⟨w3.heap.size, 1, none⟩ = some (.slice none 0 0) := by rw [hw4]; first | (simp; done) | go_simp
  have s2 : w4.cell? ⟨w3.heap.size, 2, none⟩ = some (.slice none 0 0) := by rw [hw4]; first | (simp; done) | go_simp
  have s3 : w4.cell? ⟨w3.heap.size, 3, none⟩ = some (.slice none 0 0) := by rw [hw4]; first | (simp; done) | go_simp
  have be4 := be3.trans (e4.mono be3.size)
  have d4 : Below w4.heap.size w4 w4.drew := (Below.refl _ _).drew
  have e4d : Below w3.heap.size w3 w4.drew := e4.trans (d4.mono (by omega))
  have zd4 : w4.drew.heap.size = w4.heap.size := rfl
  have F1 : Fits 1 := by unfold Fits; omega
  have s0_1 := cell_keep d4 s0
  have s1_1 := cell_keep d4 s1
  have s2_1 := cell_keep d4 s2
  have s3_1 := cell_keep d4 s3
  clear s0 s1 s2 s3
  have cx_1 := cell_keep e4d cx
  have ca'_1 := cell_keep e4d ca'
  have ta'_1 := ta'.keep e4d (by omega)
  clear cx ca' ta'
  clear hw4
  have Ho : Hid (true = (mayL (sysI 1) [v1] && bOk (zeroB (sysI 1) ⟨[], [], 0⟩ v1))) := Lib.hid (by rw [tZero_may, tZero_ok]; rfl)
  have Hr : Hid (tZero = if mayL (sysI 1) [v1] = true then bSys (sysI 1) (zeroB (sysI 1) ⟨[], [], 0⟩ v1) else sys0) := Lib.hid (by rw [if_pos tZero_may, tZero_is])
  have Hv : Hid (zZero = if (mayL (sysI 1) [v1] && bOk (zeroB (sysI 1) ⟨[], [], 0⟩ v1)) = true then zeroBZ (sysI 1) ⟨[], [], 0⟩ v1 else []) := Lib.hid (by rw [tZero_may, tZero_ok, zZero_is]; rfl)
  go_cut [8, 9, 10] (fun s6 s7 s8 wx => CutSL w4.drew tZero zZero true s6 s7 s8 wx)
  case first =>
    rename_i J K' hJ hK
    refine wp_region_drawn [8, 9, 10, 32, 33, 34, 35, 36, 37, 38, 39, 40] (fun d u wx => Below w4.drew.heap.size w4.drew wx ∧ (d 0 = true → u 33 = .agg #[.int .i64 1, .slice none 0 0, .slice none 0 0, .slice none 0 0]) ∧ (d 1 = true → u 34 = .slice (some ⟨rb, ro, none⟩) 1 kl) ∧ (d 2 = true → u 35 = .pointer (some ⟨rb, ro, none⟩)) ∧ (d 3 = true → u 36 = .agg #[.slice xa 1 ka]) ∧ ResSL w4.drew tZero zZero true (d 4) (d 5) (d 6) (d 7) (d 8) (d 9) (d 10) (d 11) (d 12) (d 13) (u 37) (u 32) (u 38) (u 39) (u 40) (u 8) (u 9) (u 10) wx) (by kernel_rfl) (by kernel_rfl) (by kernel_rfl) ?_ ?_ ?_
    · intro u; exact ⟨Below.refl _ _, vac rfl, vac rfl, vac rfl, vac rfl, ResSL.start⟩
    · refine ⟨?_, ?_, ?_, ?_, ?_, ?_, ?_, ?_, ?_, ?_, ?_, ?_, ?_, ?_, trivial⟩
      · intro d u wx h0 hd hF
        obtain ⟨hb, f0, f1, f2, f3, fR⟩ := hF
        have sz := hb.size
        refine Wpv.env fun ρ hin hout hcon hfun => ?_
        have E2 : ρ (.tmp 6) = .pointer (some ⟨w3.heap.size, 0, none⟩) := (hout 6 (by kernel_rfl)).trans (by kernel_rfl)
        clear hin hout
        have c0 := cell_keep hb s0_1
        have c1 := cell_keep hb s1_1
        have c2 := cell_keep hb s2_1
        have c3 := cell_keep hb s3_1
        refine Wpv.value (v := .agg #[.int .i64 1, .slice none 0 0, .slice none 0 0, .slice none 0 0]) (w' := wx) ?_ ⟨hb, fun _ => rfl, f1, f2, f3, fR⟩
        clear f0 f1 f2 f3 fR
        simp only [execOp]; rw [E2]; go_simp
      · intro d u wx h0 hd hF
        obtain ⟨hb, f0, f1, f2, f3, fR⟩ := hF
        have sz := hb.size
        refine Wpv.env fun ρ hin hout hcon hfun => ?_
        have E2 : ρ (.tmp 7) = .slice (some ⟨rb, ro, none⟩) 1 kl := (hout 7 (by kernel_rfl)).trans (by kernel_rfl)
        clear hin hout
        exact Wpv.value (v := .slice (some ⟨rb, ro, none⟩) 1 kl) (by simp only [execOp]; rw [E2]; rfl) ⟨hb, f0, fun _ => rfl, f2, f3, fR⟩
      · intro d u wx h0 hd hF
        obtain ⟨hb, f0, f1, f2, f3, fR⟩ := hF
        have sz := hb.size
        refine Wpv.env fun ρ hin hout hcon hfun => ?_
        have E2 := (hin 34 (by kernel_rfl)).trans (f1 (hd.get (j := 1) (by kernel_rfl)))
        clear hin hout
        refine Wpv.value (v := .pointer (some ⟨rb, ro, none⟩)) (w' := wx) ?_ ⟨hb, f0, f1, fun _ => rfl, f3, fR⟩
        clear f0 f1 f2 f3 fR
        go_simp
      · intro d u wx h0 hd hF
        obtain ⟨hb, f0, f1, f2, f3, fR⟩ := hF
        have sz := hb.size
        refine Wpv.env fun ρ hin hout hcon hfun => ?_
        have E2 := (hin 35 (by kernel_rfl)).trans (f2 (hd.get (j := 2) (by kernel_rfl)))
        clear hin hout
        have c0 := cell_keep hb ca'_1
        refine Wpv.value (v := .agg #[.slice xa 1 ka]) (w' := wx) ?_ ⟨hb, f0, f1, f2, fun _ => rfl, fR⟩
        clear f0 f1 f2 f3 fR
        go_simp
      · intro d u wx h0 hd hF
        obtain ⟨hb, f0, f1, f2, f3, fR⟩ := hF
        have sz := hb.size
        refine Wpv.env fun ρ hin hout hcon hfun => ?_
        have E2 := (hin 33 (by kernel_rfl)).trans (f0 (hd.get (j := 0) (by kernel_rfl)))
        have A0 := (hin 36 (by kernel_rfl)).trans (f3 (hd.get (j := 3) (by kernel_rfl)))
        clear hin hout
        rw [h0] at fR
        refine Wpv.enter (f := 18) (args := #[.agg #[.int .i64 1, .slice none 0 0, .slice none 0 0, .slice none 0 0], .agg #[.slice xa 1 ka]]) (w' := wx) (by clear f0 f1 f2 f3 fR; go_simp) (addZero_impl false 0 0 _ _ _ _ (sysI 1) false 0 w3.heap.size _ v1 wx (sysI_R 1 F1 wx) (Nat.zero_le _) (sysI_small 1) (ta'_1.keep hb (by omega)) (by omega) (by simp [v1]) true tZero zZero Ho Hr Hv) ?_
        intro e' w' hq
        obtain ⟨uu, hu, j1, hr⟩ := ResSL.main fR hb hq
        exact ⟨uu, hu, ⟨hb.trans (j1.mono sz), f0, f1, f2, f3, hr⟩⟩
      · intro d u wx h0 hd hF
        obtain ⟨hb, f0, f1, f2, f3, fR⟩ := hF
        have sz := hb.size
        refine Wpv.env fun ρ hin hout hcon hfun => ?_
        have E1 := hin 37 (by kernel_rfl)
        clear hin hout
        exact Wpv.value (v := u 37) (by simp only [execOp]; rw [E1]; rfl) ⟨hb, f0, f1, f2, f3, (ResSL.moveD (hd.get (j := 4) (by kernel_rfl)) fR)⟩
      · intro d u wx h0 hd hF
        obtain ⟨hb, f0, f1, f2, f3, fR⟩ := hF
        have sz := hb.size
        refine Wpv.env fun ρ hin hout hcon hfun => ?_
        have E1 := hin 32 (by kernel_rfl)
        clear hin hout
        have hm : d 5 = true := hd.get (j := 5) (by kernel_rfl)
        obtain ⟨x, y, b, e⟩ := ResSL.tupD hm fR
        have e1 := E1.trans e
        refine Wpv.value (v := x) (w' := wx) (by clear e E1 f0 f1 f2 f3 fR; go_simp) ⟨hb, f0, f1, f2, f3, (ResSL.ex0D hm e fR)⟩
      · intro d u wx h0 hd hF
        obtain ⟨hb, f0, f1, f2, f3, fR⟩ := hF
        have sz := hb.size
        refine Wpv.env fun ρ hin hout hcon hfun => ?_
        have E1 := hin 32 (by kernel_rfl)
        clear hin hout
        have hm : d 5 = true := hd.get (j := 5) (by kernel_rfl)
        obtain ⟨x, y, b, e⟩ := ResSL.tupD hm fR
        have e1 := E1.trans e
        refine Wpv.value (v := y) (w' := wx) (by clear e E1 f0 f1 f2 f3 fR; go_simp) ⟨hb, f0, f1, f2, f3, (ResSL.ex1D hm e fR)⟩
      · intro d u wx h0 hd hF
        obtain ⟨hb, f0, f1, f2, f3, fR⟩ := hF
        have sz := hb.size
        refine Wpv.env fun ρ hin hout hcon hfun => ?_
        have E1 := hin 32 (by kernel_rfl)
        clear hin hout
        have hm : d 5 = true := hd.get (j := 5) (by kernel_rfl)
        obtain ⟨x, y, b, e⟩ := ResSL.tupD hm fR
        have e1 := E1.trans e
        refine Wpv.value (v := b) (w' := wx) (by clear e E1 f0 f1 f2 f3 fR; go_simp) ⟨hb, f0, f1, f2, f3, (ResSL.ex2D hm e fR)⟩
      · intro d u wx h0 hd hF
        obtain ⟨hb, f0, f1, f2, f3, fR⟩ := hF
        have sz := hb.size
        refine Wpv.env fun ρ hin hout hcon hfun => ?_
        clear hin hout
        rw [h0] at fR
        have j1 : Below wx.heap.size wx (wx.alloc (.cells #[.int .i64 0, .slice none 0 0, .slice none 0 0, .slice none 0 0] 31)) := balloc (Nat.le_refl _) (Below.refl _ _) _
        refine Wpv.value (v := .pointer (some ⟨wx.heap.size, 0, none⟩)) (w' := wx.alloc (.cells #[.int .i64 0, .slice none 0 0, .slice none 0 0, .slice none 0 0] 31)) (by clear f0 f1 f2 f3 fR; go_simp) ⟨hb.trans (j1.mono sz), f0, f1, f2, f3, fR.boxA hb⟩
      · intro d u wx h0 hd hF
        obtain ⟨hb, f0, f1, f2, f3, fR⟩ := hF
        have sz := hb.size
        refine Wpv.env fun ρ hin hout hcon hfun => ?_
        clear hin hout
        rw [h0] at fR
        have j1 : Below wx.heap.size wx (wx.alloc (.cells #[.slice none 0 0] 38)) := balloc (Nat.le_refl _) (Below.refl _ _) _
        refine Wpv.value (v := .pointer (some ⟨wx.heap.size, 0, none⟩)) (w' := wx.alloc (.cells #[.slice none 0 0] 38)) (by clear f0 f1 f2 f3 fR; go_simp) ⟨hb.trans (j1.mono sz), f0, f1, f2, f3, fR.boxB hb⟩
      · intro d u wx h0 hd hF
        obtain ⟨hb, f0, f1, f2, f3, fR⟩ := hF
        have sz := hb.size
        refine Wpv.env fun ρ hin hout hcon hfun => ?_
        have Ea := hin 8 (by kernel_rfl)
        have Eb := hin 38 (by kernel_rfl)
        clear hin hout
        obtain ⟨gg, n0, a1, n1, k1, a2, n2, k2, a3, n3, k3, z0, z1, z2, z3, e1, e2, fr, bx⟩ := ResSL.preAD (hd.get (j := 6) (by kernel_rfl)) (hd.get (j := 9) (by kernel_rfl)) fR
        obtain ⟨c0, c1, c2, c3⟩ := id bx
        obtain ⟨r0, r1, r2, r3⟩ := id fr
        obtain ⟨lg, fR'⟩ := ResSL.setAD (hd.get (j := 6) (by kernel_rfl)) (hd.get (j := 9) (by kernel_rfl)) e1 e2 fR
        have y1 := Ea.trans e1
        have y2 := Eb.trans e2
        refine Wpv.skip (w' := set4 wx gg (.int .i64 n0) (.slice a1 n1 k1) (.slice a2 n2 k2) (.slice a3 n3 k3)) (by unfold set4; clear fR' e1 e2 Ea Eb bx fr f0 f1 f2 f3 fR; go_simp) ?_
        exact ⟨set4_below hb lg _ _ _ _, f0, f1, f2, f3, fR'⟩
      · intro d u wx h0 hd hF
        obtain ⟨hb, f0, f1, f2, f3, fR⟩ := hF
        have sz := hb.size
        refine Wpv.env fun ρ hin hout hcon hfun => ?_
        have Ea := hin 9 (by kernel_rfl)
        have Eb := hin 39 (by kernel_rfl)
        clear hin hout
        obtain ⟨gg, a1, n1, k1, z0, e1, e2, r0, c0⟩ := ResSL.preBD (hd.get (j := 7) (by kernel_rfl)) (hd.get (j := 10) (by kernel_rfl)) fR
        obtain ⟨lg, fR'⟩ := ResSL.setBD (hd.get (j := 7) (by kernel_rfl)) (hd.get (j := 10) (by kernel_rfl)) e1 e2 fR
        have y1 := Ea.trans e1
        have y2 := Eb.trans e2
        refine Wpv.skip (w' := wx.setCell ⟨gg, 0, none⟩ (.slice a1 n1 k1)) (by clear fR' e1 e2 Ea Eb f0 f1 f2 f3 fR; go_simp) ?_
        exact ⟨bset lg hb _, f0, f1, f2, f3, fR'⟩
      · intro d u wx h0 hd hF
        obtain ⟨hb, f0, f1, f2, f3, fR⟩ := hF
        have sz := hb.size
        refine Wpv.env fun ρ hin hout hcon hfun => ?_
        have E1 := hin 40 (by kernel_rfl)
        clear hin hout
        exact Wpv.value (v := u 40) (by simp only [execOp]; rw [E1]; rfl) ⟨hb, f0, f1, f2, f3, (ResSL.finD (hd.get (j := 8) (by kernel_rfl)) fR)⟩
    · intro d u wx hall hF
      obtain ⟨hb, f0, f1, f2, f3, fR⟩ := hF
      have fC := ResSL.cutD fR hb (hall 4 (by decide)) (hall 9 (by decide)) (hall 10 (by decide)) (hall 11 (by decide)) (hall 12 (by decide)) (hall 13 (by decide))
      clear f0 f1 f2 f3 fR
      refine hK _ _ (Met.intro (hJ _ _ ?_))
      simp only [setF, List.foldl_cons, List.foldl_nil, Act.put, List.setIfInBounds_toArray, List.set_cons_zero, List.set_cons_succ]
      repeat apply Exists.intro
      exact ⟨fC, rfl⟩
  obtain ⟨gT, kT, uiT, uoT, uhT, ucT, uvT, rfl, rfl, rfl, hgT, hkT, ⟨b0T, b1T, b2T, b3T⟩, bzT, tT, tzT, BT⟩ := hcut
  obtain ⟨aoT, koT, ahT, khT, acT, kcT, rfl, rfl, rfl, rfl, -⟩ := id tT.shape
  obtain ⟨azT, kzT, rfl, -, -⟩ := id tzT.shape
  obtain ⟨w5, hw5⟩ : ∃ x, x = wc := ⟨_, rfl⟩
  subst hw5
  have z5 := BT.size
  have be5 : Below w.heap.size w w5 := be4.trans ((d4.trans BT).mono be4.size)
  have s0_2 := cell_keep BT s0_1
  have s1_2 := cell_keep BT s1_1
  have s2_2 := cell_keep BT s2_1
  have s3_2 := cell_keep BT s3_1
  have cx_2 := cell_keep BT cx_1
  have ca_2 := cell_keep BT ca'_1
  have ta_2 := ta'_1.keep BT (by omega)
  clear s0_1 s1_1 s2_1 s3_1 cx_1 ca'_1 ta'_1
  clear Ho Hr Hv
  obtain ⟨solT, tolT⟩ := zero_sol HLX.out
  have HSO := Lib.hid solT
  have HTO := Lib.hid tolT
  clear solT tolT
  have lgT : gT < w5.heap.size := World.block_lt_of_cell? _ _ b0T
  have lkT : kT < w5.heap.size := World.block_lt_of_cell? _ _ bzT
  go_wp2_with fail
  refine name_call fun y6 hy6 => ?_
  have ey6 : Below w5.heap.size w5 y6 := by rw [hy6]; (repeat (with_reducible first | exact bR _ _ | assumption | refine bD ?_ | refine bN ?_ _ | refine bA ?_ _ | refine bS ?_ _))
  have zy6 : w5.heap.size + 1 ≤ y6.heap.size := by rw [hy6]; simp
  have cr6 : y6.cell? ⟨w5.heap.size, 0, none⟩ = some (.slice azT zZero.length kzT) := by rw [hy6]; first | (simp; done) | go_simp
  clear hy6
  have by6 := be5.trans (ey6.mono be5.size)
  have s0_3 := cell_keep ey6 s0_2
  have s1_3 := cell_keep ey6 s1_2
  have s2_3 := cell_keep ey6 s2_2
  have s3_3 := cell_keep ey6 s3_2
  have cx_3 := cell_keep ey6 cx_2
  have ca_3 := cell_keep ey6 ca_2
  have b0T_3 := cell_keep ey6 b0T
  have b1T_3 := cell_keep ey6 b1T
  have b2T_3 := cell_keep ey6 b2T
  have b3T_3 := cell_keep ey6 b3T
  have bzT_3 := cell_keep ey6 bzT
  have ta_3 := ta_2.keep ey6 (by omega)
  have tT_3 := tT.keep ey6 (by omega)
  have tzT_3 := tzT.keep ey6 (by omega)
  clear s0_2 s1_2 s2_2 s3_2 cx_2 ca_2 b0T b1T b2T b3T bzT ta_2 tT tzT
  have tx6 := ints1 fx cx_3 (by omega)
  have tl6 := lin1 tzT_3 (by omega) cr6 (by omega)
  refine (told_any false 0 w5.heap.size _ _ _ _ tZero y6.heap.size _ [x] false 0 y6.heap.size _ [zZero] y6 tT_3 (by omega) tx6 (Nat.le_refl _) tl6 (Nat.le_refl _) (by simp) (by simp [tZero]) (by simp [tZero]) (by simp [tZero]) (by simp) (fun _ z hz => by rw [List.mem_singleton] at hz; subst hz; exact zZero_in) true HSO.out _ HTO.out).mono ?_; rintro e w6 ⟨u6, rfl, f6, n6⟩
  clear tx6 tl6 cr6
  have zf6 := f6.size
  have bf6 := by6.trans (f6.mono by6.size)
  have s0_4 := cell_keep f6 s0_3
  have s1_4 := cell_keep f6 s1_3
  have s2_4 := cell_keep f6 s2_3
  have s3_4 := cell_keep f6 s3_3
  have cx_4 := cell_keep f6 cx_3
  have ca_4 := cell_keep f6 ca_3
  have b0T_4 := cell_keep f6 b0T_3
  have b1T_4 := cell_keep f6 b1T_3
  have b2T_4 := cell_keep f6 b2T_3
  have b3T_4 := cell_keep f6 b3T_3
  have bzT_4 := cell_keep f6 bzT_3
  have ta_4 := ta_3.keep f6 (by omega)
  have tT_4 := tT_3.keep f6 (by omega)
  have tzT_4 := tzT_3.keep f6 (by omega)
  clear s0_3 s1_3 s2_3 s3_3 cx_3 ca_3 b0T_3 b1T_3 b2T_3 b3T_3 bzT_3 ta_3 tT_3 tzT_3
  obtain ⟨r6, q6, rfl, -, -⟩ := n6.shape
  obtain ⟨rb6, ro6, vv6, rfl, cv6, ev6, -⟩ := n6.at (k := 0) (by simp)
  simp only [List.getElem?_cons_zero, Option.some.injEq] at ev6
  subst ev6
  rw [Nat.add_zero] at cv6
  clear n6
  have d6 : Below w6.heap.size w6 w6.drew := (Below.refl _ _).drew
  have zd6 : w6.drew.heap.size = w6.heap.size := rfl
  obtain ⟨Y, hY⟩ : ∃ Y, yZ x = Y := ⟨_, rfl⟩
  rw [hY] at cv6
  obtain ⟨Bx, hBx⟩ : ∃ B, (x == 0) = B := ⟨_, rfl⟩
  have hBy : (Y == 1) = Bx := by rw [← hY, ← hBx]; unfold yZ; by_cases q : x = 0 <;> simp [q]
  have hB2 : (Bx != Bx) = false := by simp
  have hY2 : ¬ (1 < Y) := by rw [← hY]; unfold yZ; split <;> omega
  have hY3 : decide (1 < Y) = false := decide_eq_false hY2
  have HY := Lib.hid hY
  clear hY
  have S0 : w6.drew.cell? ⟨w3.heap.size, 0, none⟩ = some (.int .i64 1) := cell_keep d6 s0_4
  have S1 : w6.drew.cell? ⟨w3.heap.size, 1, none⟩ = some (.slice none 0 0) := cell_keep d6 s1_4
  have S2 : w6.drew.cell? ⟨w3.heap.size, 2, none⟩ = some (.slice none 0 0) := cell_keep d6 s2_4
  have S3 : w6.drew.cell? ⟨w3.heap.size, 3, none⟩ = some (.slice none 0 0) := cell_keep d6 s3_4
  have T0 : w6.drew.cell? ⟨gT, 0, none⟩ = some (.int .i64 tZero.ins) := cell_keep d6 b0T_4
  have T1 : w6.drew.cell? ⟨gT, 1, none⟩ = some (.slice aoT tZero.outs.length koT) := cell_keep d6 b1T_4
  have T2 : w6.drew.cell? ⟨gT, 2, none⟩ = some (.slice ahT tZero.hints.length khT) := cell_keep d6 b2T_4
  have T3 : w6.drew.cell? ⟨gT, 3, none⟩ = some (.slice acT tZero.cons.length kcT) := cell_keep d6 b3T_4
  have CX : w6.drew.cell? ⟨w1.heap.size, 0, none⟩ = some (.int .i64 x) := cell_keep d6 cx_4
  have V6 : w6.drew.cell? ⟨rb6, ro6, none⟩ = some (.int .i64 Y) := cell_keep d6 cv6
  have BZ : w6.drew.cell? ⟨kT, 0, none⟩ = some (.slice azT zZero.length kzT) := cell_keep d6 bzT_4
  have TT := tT_4.keep d6 (by omega)
  have TZ := tzT_4.keep d6 (by omega)
  have GT := Lib.hid (grown_yes 0 _ _ _ _ w5.heap.size _ _ _ _ (sysI 1) tZero w6.drew (sysI_R 1 F1 _) (Nat.zero_le _) TT (by omega) sysI1_sys tZero_sys rfl rfl (H := tZero.hints) rfl (C := tZero.cons) rfl)
  have lS : w3.heap.size < w6.drew.heap.size := World.block_lt_of_cell? _ _ S0
  have lT : gT < w6.drew.heap.size := World.block_lt_of_cell? _ _ T0
  clear s0_4 s1_4 s2_4 s3_4 b0T_4 b1T_4 b2T_4 b3T_4 cx_4 cv6 bzT_4 tT_4 tzT_4 ca_4 ta_4
  go_wp2_with fail
  go_region_held3 (fun w' => w'.cell? ⟨w3.heap.size, 0, none⟩ = some (.int .i64 1) ∧ w'.cell? ⟨w3.heap.size, 1, none⟩ = some (.slice none 0 0) ∧ w'.cell? ⟨w3.heap.size, 2, none⟩ = some (.slice none 0 0) ∧ w'.cell? ⟨w3.heap.size, 3, none⟩ = some (.slice none 0 0) ∧ w'.cell? ⟨gT, 0, none⟩ = some (.int .i64 tZero.ins) ∧ w'.cell? ⟨gT, 1, none⟩ = some (.slice aoT tZero.outs.length koT) ∧ w'.cell? ⟨gT, 2, none⟩ = some (.slice ahT tZero.hints.length khT) ∧ w'.cell? ⟨gT, 3, none⟩ = some (.slice acT tZero.cons.length kcT) ∧ w'.cell? ⟨w1.heap.size, 0, none⟩ = some (.int .i64 x) ∧ w'.cell? ⟨rb6, ro6, none⟩ = some (.int .i64 Y)) (first | exact ⟨S0, S1, S2, S3, T0, T1, T2, T3, CX, V6⟩ | exact ⟨ck j1 S0, ck j1 S1, ck j1 S2, ck j1 S3, ck j1 T0, ck j1 T1, ck j1 T2, ck j1 T3, ck j1 CX, ck j1 V6⟩)
    (first | (go_at_call 14; (with_reducible refine GT.out.mono ?_); rintro e v1 ⟨rfl, j1⟩))
  have z7 := j1.size
  have be7 : Below w.heap.size w v1 := bf6.trans ((d6.trans j1).mono bf6.size)
  have T0v : v1.cell? ⟨gT, 0, none⟩ = some (.int .i64 tZero.ins) := ck j1 T0
  have T1v : v1.cell? ⟨gT, 1, none⟩ = some (.slice aoT tZero.outs.length koT) := ck j1 T1
  have T2v : v1.cell? ⟨gT, 2, none⟩ = some (.slice ahT tZero.hints.length khT) := ck j1 T2
  have T3v : v1.cell? ⟨gT, 3, none⟩ = some (.slice acT tZero.cons.length kcT) := ck j1 T3
  have CXv : v1.cell? ⟨w1.heap.size, 0, none⟩ = some (.int .i64 x) := ck j1 CX
  have V6v : v1.cell? ⟨rb6, ro6, none⟩ = some (.int .i64 Y) := ck j1 V6
  have BZv : v1.cell? ⟨kT, 0, none⟩ = some (.slice azT zZero.length kzT) := ck j1 BZ
  have TTv := TT.keep j1 (by omega)
  have TZv := TZ.keep j1 (by omega)
  have txv := ints1 fx CXv (by omega)
  clear T0 T1 T2 T3 CX V6 BZ TT TZ GT
  go_wp2_with fail
  refine (solve_spec false 0 w5.heap.size _ _ _ _ tZero v1.heap.size _ [x] v1 TTv (by omega) txv (Nat.le_refl _) (by simp) (by simp [tZero]) (by simp [tZero]) (by simp [tZero])).mono ?_; rintro e w8 ⟨u8, rfl, f8, n8⟩
  rw [zero_solL HLX.out] at n8
  obtain ⟨I, hI⟩ : ∃ I, M.pw x 2147483645 = I := ⟨_, rfl⟩
  obtain ⟨Z, hZ⟩ : ∃ Z, pZ x = Z := ⟨_, rfl⟩
  rw [hI, hZ] at n8
  have HF := Lib.hid fun (i' p' : Int) (hip : i' = I ∨ p' = Z) (h : checkB tZero [1, x, i', p'] = true) => show valOk zZero [1, x, i', p'] = true ∧ val zZero [1, x, i', p'] = Y from by
    rw [← hI, ← hZ] at hip
    rw [← HY.out]
    exact zero_firm HLX.out h hip
  clear hI hZ
  have z8 := f8.size
  have be8 : Below w.heap.size w w8 := be7.trans (f8.mono be7.size)
  obtain ⟨aw, cw, eu, lw, bw⟩ := n8.shape
  have eu' : u8 = .slice aw 4 cw := eu
  clear eu
  subst eu'
  have n8' : Nums true v1.heap.size w8.heap.size w8 (.slice aw 4 cw) [1, x, I, Z] := n8
  have lw' : 4 ≤ cw := lw
  have ni8 := n8'.ints
  have T0w := cell_keep f8 T0v
  have T1w := cell_keep f8 T1v
  have T2w := cell_keep f8 T2v
  have T3w := cell_keep f8 T3v
  have V6w := cell_keep f8 V6v
  have BZw := cell_keep f8 BZv
  have TTw := TTv.keep f8 (by omega)
  have TZw := TZv.keep f8 (by omega)
  clear T0v T1v T2v T3v CXv V6v BZv TTv TZv txv n8 n8' lw
  obtain ⟨i0, hi0, hz0, hz1, hz2⟩ := info_parts intInfo
  go_wp2_with fail
  go_loopw [15] (fun i wr => ∃ k : Nat, 2 ≤ k ∧ k ≤ 4 ∧ i = .int .i64 k ∧ Below w8.heap.size w8 wr) (fun i _ => 4 - (intOf i).toNat)
  case atStart => exact ⟨2, Nat.le_refl _, by omega, rfl, by (repeat (with_reducible first | exact bR _ _ | assumption | refine bD ?_ | refine bN ?_ _ | refine bA ?_ _ | refine bS ?_ _))⟩
  case round =>
    obtain ⟨k, k2, k4, rfl, be⟩ := hrel
    have zr := be.size
    by_cases hlt : k < 4
    · have hdec : decide ((k : Int) < 4) = true := decide_eq_true (by omega)
      have ni := ni8.keep be (Nat.le_refl _)
      have FI := Lib.hid (ints_fits2 ni)
      have T0 := cell_keep be T0w
      have T1 := cell_keep be T1w
      have T2 := cell_keep be T2w
      have T3 := cell_keep be T3w
      have V6 := cell_keep be V6w
      have BZ := cell_keep be BZw
      have TT := TTw.keep be (by omega)
      have TZ := TZw.keep be (by omega)
      clear T0w T1w T2w T3w V6w BZw TTw TZw ni8
      go_wp2_with (at_builtin; refine name_list ?_)
      intro W hW
      have b1 : Below wr.heap.size wr W := by rw [hW]; (repeat (with_reducible first | exact bR _ _ | assumption | refine bD ?_ | refine bN ?_ _ | refine bA ?_ _ | refine bS ?_ _))
      have C := Lib.hid (ints_cells2 (ni.keep b1 (by omega)))
      have row0 : W.ownsRow wr.heap.size 3 1 (.slice (some ⟨wr.heap.size, 0, none⟩) 0 0) 0 (iv2 []) := by rw [hW]; exact row_made2 _ _ _ (Nat.le_refl _)
      have z1 := b1.size
      clear hW
      go_wp2_with (at_builtin; refine wpList_append_spread _ rfl _ _ 26 rfl wr.heap.size 3 i0 (.int .i64 0) 1 8 Try.underlying26 hi0 hz0 hz1 hz2 rfl (by decide) (.slice (some ⟨wr.heap.size, 0, none⟩) 0 0) 0 (iv2 []) rfl row0 _ _ _ (iv2 [1, x, I, Z]) rfl (iv2_len [1, x, I, Z]) C.out.1 C.out.2 (iv2_one [1, x, I, Z]) (by unfold maxLen; omega) (by omega) z1 ?_; rintro v' w9 ⟨hown, hgrow, -⟩; obtain ⟨a', cap', e'⟩ := own_slice hown; have e2' : v' = .slice a' 4 cap' := e'; clear e'; subst e2'; have e5 : Below wr.heap.size W w9 := below_grown (row := some wr.heap.size) hgrow z1 (fun k e => by simp at e; omega); have b9 := b1.trans e5; have fin : Nums true wr.heap.size w9.heap.size w9 (.slice a' 4 cap') [1, x, I, Z] := Nums.own (ts := [1, x, I, Z]) hown FI.out)
      clear hown hgrow row0 C e5
      have z9 := b9.size
      have kl : k < [1, x, I, Z].length := hlt
      obtain ⟨b, off, z, eb, c0, e0, fz⟩ := fin.at kl
      subst eb
      obtain ⟨a2, cap2, ee, q1, q2, q3, q4⟩ := id fin
      rcases q4 with q4 | ⟨b', off', ex, r1, r2, r3, r4⟩
      · cases q4
      simp only [Value.slice.injEq, Option.some.injEq, Addr.mk.injEq, and_true] at ee
      obtain ⟨rfl, -, rfl⟩ := ee
      simp only [Option.some.injEq, Addr.mk.injEq, and_true] at ex
      obtain ⟨rfl, rfl⟩ := ex
      have fzn := r3 rfl (off + k)
      have put := fin.put kl y fy
      have bS : Below wr.heap.size wr (w9.setCell ⟨b, off + k, none⟩ (.int .i64 y)) := by (repeat (with_reducible first | exact bR _ _ | assumption | refine bD ?_ | refine bN ?_ _ | refine bA ?_ _ | refine bS ?_ _))
      have zS : (w9.setCell ⟨b, off + k, none⟩ (.int .i64 y)).heap.size = w9.heap.size := by simp
      obtain ⟨i', p', hs, hip⟩ := set_two x I Z y k2 hlt
      rw [hs] at put
      have BZs := cell_keep bS BZ
      have T0s := cell_keep bS T0
      have T1s := cell_keep bS T1
      have T2s := cell_keep bS T2
      have T3s := cell_keep bS T3
      have V6s := cell_keep bS V6
      have TTs := TT.keep bS (by omega)
      have TZs := TZ.keep bS (by omega)
      have HIP := Lib.hid hip
      clear BZ T0 T1 T2 T3 V6 TT TZ hs hip fin q1 q2 q3 r4 e0 kl ni
      go_wp2_with fail
      refine (HFB.out _).mono ?_; rintro e w10 ⟨rfl, rfl⟩
      go_wp2_with fail
      refine (value_spec false 0 w5.heap.size _ zZero w9.heap.size _ [1, x, i', p'] _ TZs (by omega) put.ints (by omega)).mono ?_; rintro e w11 ⟨rfl, f11⟩
      obtain ⟨V, hV⟩ : ∃ V, val zZero [1, x, i', p'] = V := ⟨_, rfl⟩
      obtain ⟨O, hO⟩ : ∃ O, valOk zZero [1, x, i', p'] = O := ⟨_, rfl⟩
      rw [hV, hO]
      have z11 := f11.size
      have b11 := bS.trans (f11.mono (by omega))
      have T0 := cell_keep f11 T0s
      have T1 := cell_keep f11 T1s
      have T2 := cell_keep f11 T2s
      have T3 := cell_keep f11 T3s
      have V6 := cell_keep f11 V6s
      have TT := TTs.keep f11 (by omega)
      have nk := put.ints.keep f11 (by omega)
      have HV := Lib.hid hV
      have HO := Lib.hid hO
      clear T0s T1s T2s T3s V6s BZs TTs TZs put c0 fzn r3 hV hO
      obtain ⟨Cb, hC⟩ : ∃ B, checkB tZero [1, x, i', p'] = B := ⟨_, rfl⟩
      have CS := check_spec false 0 w5.heap.size _ _ _ _ tZero w9.heap.size _ [1, x, i', p'] w11 TT (by omega) nk (by omega) (by simp) (by simp [tZero]) (by simp [tZero]) (by simp [tZero])
      rw [hC] at CS
      have HCS := Lib.hid CS
      clear CS nk TT
      go_wp2_with fail
      refine (HCS.out).mono ?_; rintro e w12 ⟨rfl, f12⟩
      have z12 := f12.size
      have V6e := cell_keep f12 V6
      have b12 := be.trans ((b11.trans (f12.mono b11.size)).mono zr)
      clear HCS T0 T1 T2 T3 V6
      cases Cb with
      | false =>
        go_wp2_with fail
        go_roundw
        case rel => exact ⟨k + 1, by omega, by omega, by go_num, b12⟩
        case measure => simp [intOf]; omega
      | true =>
        obtain ⟨h1, h2⟩ := HF.out _ _ HIP.out hC
        have eO : O = true := HO.out.symm.trans h1
        have eV : V = Y := HV.out.symm.trans h2
        clear HO HV h1 h2 hC
        subst eO eV
        have hne : (V != V) = false := by simp
        go_wp2_with fail
        go_roundw
        case rel => exact ⟨k + 1, by omega, by omega, by go_num, b12⟩
        case measure => simp [intOf]; omega
    · obtain rfl : k = 4 := by omega
      have hdec : decide (((4 : Nat) : Int) < 4) = false := rfl
      have bend := be8.trans (be.mono be8.size)
      go_wp2_with fail
      go_ret
      exact ⟨rfl, bend⟩
end Go.Proofs.Ytghjcedhoeoiiaa.L
