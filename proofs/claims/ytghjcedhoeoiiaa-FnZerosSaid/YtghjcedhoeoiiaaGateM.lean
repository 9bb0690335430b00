/- FnMuxes: one of two numbers is selected by a bit; two bits are reported to differ exactly if they do. -/
import Derived.Test.YtghjcedhoeoiiaaGateG
import Derived.Test.YtghjcedhoeoiiaaGateB
namespace Go.Proofs.Ytghjcedhoeoiiaa.L
open Go.RowKit Go.Proofs.Ytghjcedhoeoiiaa.S
set_option linter.unusedVariables false
set_option linter.unusedSimpArgs false

theorem ints4 {w : World} {b : Nat} {c x y d : Int} (fc : Fits c) (fx : Fits x) (fy : Fits y) (fd : Fits d) (c0 : w.cell? ⟨b, 0, none⟩ = some (.int .i64 c)) (c1 : w.cell? ⟨b, 1, none⟩ = some (.int .i64 x)) (c2 : w.cell? ⟨b, 2, none⟩ = some (.int .i64 y)) (c3 : w.cell? ⟨b, 3, none⟩ = some (.int .i64 d)) (hb : b < w.heap.size) : Ints w.heap.size w (.slice (some ⟨b, 0, none⟩) 4 4) [c, x, y, d] := by
  refine ⟨_, _, rfl, by simp, by omega, fun z hz => ?_, .inr ⟨b, 0, rfl, hb, fun j z hj => ?_⟩⟩
  · simp only [List.mem_cons, List.not_mem_nil, or_false] at hz
    rcases hz with rfl | rfl | rfl | rfl <;> assumption
  · match j, hj with
    | 0, hj => simp at hj; subst hj; exact c0
    | 1, hj => simp at hj; subst hj; exact c1
    | 2, hj => simp at hj; subst hj; exact c2
    | 3, hj => simp at hj; subst hj; exact c3
theorem row_wide2 {B B' : Nat} {w : World} {a : Option Addr} {len : Nat} (h : Row B w a len) (hb : B ≤ B') : Row B' w a len := by
  obtain ⟨h1, h2⟩ := h
  refine ⟨h1, ?_⟩
  rcases h2 with h2 | ⟨b, off, e, hl, hc⟩
  · exact .inl h2
  · exact .inr ⟨b, off, e, by omega, hc⟩
theorem lin1 {w : World} {b h : Nat} {v : Value} {z : List T} (t : Terms false 0 h w v z) (hh : h ≤ w.heap.size) (c0 : w.cell? ⟨b, 0, none⟩ = some v) (hb : b < w.heap.size) : LinS false 0 w.heap.size w (.slice (some ⟨b, 0, none⟩) 1 1) [z] := by
  refine ⟨_, 1, rfl, Nat.le_refl _, by omega, .inr ⟨b, 0, rfl, Nat.zero_le _, hb, (fun q => by cases q), fun _ => [v], fun _ => 0, fun _ => h, (fun q => by cases q), fun j x hj => ?_⟩⟩
  match j, hj with
  | 0, hj =>
    simp at hj; subst hj
    refine ⟨Nat.le_refl _, hh, fun f c hfc => ?_, v, rfl, t⟩
    match f, hfc with
    | 0, hfc => simp at hfc; subst hfc; simpa using c0
set_option maxRecDepth 100000 in
set_option maxHeartbeats 3200000 in
theorem at_any (a : Option Addr) (len cap i : Nat) (hi : i ≤ 30) (w : World) (hr : Row w.heap.size w a len) :
    Calls Try.prog 15 #[.slice a len cap, .int .i64 (i : Int)] w fun e w' => ∃ n : Int, e = .returned (.int .i64 n) ∧ 0 ≤ n ∧ n ≤ 255 ∧ w = w' := by
  obtain ⟨hl, hr⟩ := hr
  unfold maxLen at hl
  by_cases h0 : len = 0
  · subst h0
    go_enter Try.func15, Try.ntmps15
    go_wp2_with fail
    go_ret
    exact ⟨0, rfl, by omega, by omega, rfl⟩
  · rcases hr with hr | ⟨b, off, rfl, hb, hc⟩
    · exact absurd hr h0
    have hm : i % len < len := Nat.mod_lt _ (by omega)
    obtain ⟨n, n0, n1, hn⟩ := hc (i % len) hm
    have e1 : ((len : Int) == 0) = false := by simp; omega
    obtain ⟨r, hr⟩ : ∃ r : Int, (i : Int) % (len : Int) = r := ⟨_, rfl⟩
    have hr2 : r = ((i % len : Nat) : Int) := by rw [← hr]; omega
    have e3 : r.toNat = i % len := by omega
    have e4 : 0 ≤ r := by omega
    have e5 : r < (len : Int) := by omega
    have hn' : w.cell? ⟨b, off + r.toNat, none⟩ = some (.int .u8 n) := by rw [e3]; exact hn
    clear hn hr2 e3
    have e6 : ¬ (len : Int) = 0 := by omega
    go_enter Try.func15, Try.ntmps15
    go_wp2_with fail
    go_ret
    exact ⟨n, rfl, n0, n1, rfl⟩
set_option maxRecDepth 100000 in
set_option maxHeartbeats 12800000 in
theorem law_FnMuxes (a : Option Addr) (len cap : Nat) (w : World) (hr : Row w.heap.size w a len) :
    Calls Try.prog 4 #[.slice a len cap] w fun e w' => e = .returned (.bool true) ∧ Below w.heap.size w w' := by
  go_enter Try.func4, Try.ntmps4
  go_wp2_with fail
  refine (drawFAdd_any a len cap w hr).mono ?_
  rintro e w1 ⟨p, q, rfl, fp, fq, be1⟩
  have hr1 : Row w1.heap.size w1 a len := row_wide2 (hr.keep be1) be1.size
  obtain ⟨x, hx⟩ : ∃ x, x = p % 2147483647 := ⟨_, rfl⟩
  obtain ⟨y, hy⟩ : ∃ y, y = q % 2147483647 := ⟨_, rfl⟩
  have lx : fl x := by unfold fl; omega
  have ly : fl y := by unfold fl; omega
  have FA := field_any p
  have FB := field_any q
  rw [← hx] at FA
  rw [← hy] at FB
  have HFA := Lib.hid FA
  have HFB := Lib.hid FB
  have HLX := Lib.hid lx
  have HLY := Lib.hid ly
  clear FA FB hx hy
  go_wp2_with fail
  refine (at_any a len cap 2 (by omega) w1 hr1).mono ?_; rintro e w2 ⟨n2, rfl, n20, n21, rfl⟩
  obtain ⟨c, hc⟩ : ∃ c, c = n2 % 2 := ⟨_, rfl⟩
  have hcb : c = 0 ∨ c = 1 := by omega
  go_wp2_with fail
  refine (HFA.out _ fp).mono ?_; rintro e w2 ⟨rfl, rfl⟩
  go_wp2_with fail
  refine (HFB.out _ fq).mono ?_; rintro e w3 ⟨rfl, rfl⟩
  go_wp2_with fail
  refine (at_any a len cap 3 (by omega) w1 hr1).mono ?_; rintro e w4 ⟨n3, rfl, n30, n31, rfl⟩
  obtain ⟨d, hd⟩ : ∃ d, d = n3 % 2 := ⟨_, rfl⟩
  have hdb : d = 0 ∨ d = 1 := by omega
  go_wp2_with fail
  refine name_call fun w2 hw2 => ?_
  rw [← hc, ← hd] at hw2
  have e2 : Below w1.heap.size w1 w2 := by rw [hw2]; (repeat (with_reducible first | exact bR _ _ | assumption | refine bD ?_ | refine bN ?_ _ | refine bA ?_ _ | refine bS ?_ _))
  have z2 : w1.heap.size + 1 ≤ w2.heap.size := by rw [hw2]; simp
  have cc2 : w2.cell? ⟨w1.heap.size, 0, none⟩ = some (.int .i64 c) := by rw [hw2]; first | (simp; done) | go_simp
  have cx2 : w2.cell? ⟨w1.heap.size, 1, none⟩ = some (.int .i64 x) := by rw [hw2]; first | (simp; done) | go_simp
  have cy2 : w2.cell? ⟨w1.heap.size, 2, none⟩ = some (.int .i64 y) := by rw [hw2]; first | (simp; done) | go_simp
  have cd2 : w2.cell? ⟨w1.heap.size, 3, none⟩ = some (.int .i64 d) := by rw [hw2]; first | (simp; done) | go_simp
  have be2 := be1.trans (e2.mono be1.size)
  clear hw2 hc hd n20 n21 n30 n31
  have fc : Fits c := by unfold Fits; omega
  have fd : Fits d := by unfold Fits; omega
  have fx : Fits x := by unfold fl at lx; unfold Fits; omega
  have fy : Fits y := by unfold fl at ly; unfold Fits; omega
  have ld : fl d := by unfold fl; omega
  have HLD := Lib.hid ld
  have HCB := Lib.hid hcb
  have HDB := Lib.hid hdb
  clear lx ly ld hcb hdb
  have ti2 := ints4 fc fx fy fd cc2 cx2 cy2 cd2 (by omega)
  refine (inputs_any w2.heap.size _ [c, x, y, d] w2 ti2 (Nat.le_refl _) (by simp)).mono ?_; rintro e w3 ⟨ur, rfl, f3, tl3⟩
  have z3 := f3.size
  have be3 := be2.trans (f3.mono be2.size)
  have cc := ck f3 cc2
  have cx := ck f3 cx2
  have cy := ck f3 cy2
  have cd := ck f3 cd2
  have tl : LinS false 0 w3.heap.size w3 ur [v1, v2, w3L, w4L] := tl3
  obtain ⟨al, kl, rfl, ll, lb⟩ := tl.shape
  obtain ⟨rb, ro, ua, ea, -, lrb, ca, ta⟩ := tl.at (j := 0) (by simp)
  subst ea
  obtain ⟨rb2, ro2, ub, eb, -, -, cb, tb⟩ := tl.at (j := 1) (by simp)
  simp only [Option.some.injEq, Addr.mk.injEq, and_true] at eb
  obtain ⟨rfl, rfl⟩ := eb
  obtain ⟨rb2, ro2, uf, eb, -, -, cf, tf⟩ := tl.at (j := 2) (by simp)
  simp only [Option.some.injEq, Addr.mk.injEq, and_true] at eb
  obtain ⟨rfl, rfl⟩ := eb
  obtain ⟨rb2, ro2, ug, eb, -, -, cg, tg⟩ := tl.at (j := 3) (by simp)
  simp only [Option.some.injEq, Addr.mk.injEq, and_true] at eb
  obtain ⟨rfl, rfl⟩ := eb
  obtain ⟨xa, ka, rfl, -, -⟩ := ta.shape
  obtain ⟨xb, kb, rfl, -, -⟩ := tb.shape
  obtain ⟨xf, kf, rfl, -, -⟩ := tf.shape
  obtain ⟨xg, kg, rfl, -, -⟩ := tg.shape
  rw [Nat.add_zero] at ca
  have ta' : Terms false 0 w3.heap.size w3 (.slice xa 1 ka) v1 := ta
  have tb' : Terms false 0 w3.heap.size w3 (.slice xb 1 kb) v2 := tb
  have tf' : Terms false 0 w3.heap.size w3 (.slice xf 1 kf) w3L := tf
  have tg' : Terms false 0 w3.heap.size w3 (.slice xg 1 kg) w4L := tg
  have ca' : w3.cell? ⟨rb, ro, none⟩ = some (.slice xa 1 ka) := ca
  have cb' : w3.cell? ⟨rb, ro + 1, none⟩ = some (.slice xb 1 kb) := cb
  have cf' : w3.cell? ⟨rb, ro + 2, none⟩ = some (.slice xf 1 kf) := cf
  have cg' : w3.cell? ⟨rb, ro + 3, none⟩ = some (.slice xg 1 kg) := cg
  clear cc2 cx2 cy2 cd2 ti2 ca cb cf cg ta tb tf tg tl tl3 ll lb
  go_wp2_with fail
  refine name_wp fun w4 hw4 => ?_
  have e4 : Below w3.heap.size w3 w4 := by rw [hw4]; (repeat (with_reducible first | exact bR _ _ | assumption | refine bD ?_ | refine bN ?_ _ | refine bA ?_ _ | refine bS ?_ _))
  have z4 : w3.heap.size + 1 ≤ w4.heap.size := by rw [hw4]; simp
  have s0 : w4.cell? ⟨w3.heap.size, 0, none⟩ = some (.int .i64 4) := by rw [hw4]; first | (simp; done) | go_simp
  have s1 : w4.cell? ⟨w3.heap.size, 1, none⟩ = some (.slice none 0 0) := by rw [hw4]; first | (simp; done) | go_simp
  have s2 : w4.cell? ⟨w3.heap.size, 2, none⟩ = some (.slice none 0 0) := by rw [hw4]; first | (simp; done) | go_simp
  have s3 : w4.cell? ⟨w3.heap.size, 3, none⟩ = some (.slice none 0 0) := by rw [hw4]; first | (simp; done) | go_simp
  have be4 := be3.trans (e4.mono be3.size)
  have d4 : Below w4.heap.size w4 w4.drew := (Below.refl _ _).drew
  have e4d : Below w3.heap.size w3 w4.drew := e4.trans (d4.mono (by omega))
  have zd4 : w4.drew.heap.size = w4.heap.size := rfl
  have F4 : Fits 4 := by unfold Fits; omega
  have s0_1 := cell_keep d4 s0
  have s1_1 := cell_keep d4 s1
  have s2_1 := cell_keep d4 s2
  have s3_1 := cell_keep d4 s3
  clear s0 s1 s2 s3
  have cc_1 := cell_keep e4d cc
  have cx_1 := cell_keep e4d cx
  have cy_1 := cell_keep e4d cy
  have cd_1 := cell_keep e4d cd
  have ca'_1 := cell_keep e4d ca'
  have cb'_1 := cell_keep e4d cb'
  have cf'_1 := cell_keep e4d cf'
  have cg'_1 := cell_keep e4d cg'
  have ta'_1 := ta'.keep e4d (by omega)
  have tb'_1 := tb'.keep e4d (by omega)
  have tf'_1 := tf'.keep e4d (by omega)
  have tg'_1 := tg'.keep e4d (by omega)
  clear cc cx cy cd ca' cb' cf' cg' ta' tb' tf' tg'
  clear hw4
  have Ho : Hid (true = (mayL (sysI 4) [v1, v2, w3L] && bOk (muxB (sysI 4) ⟨[], [], 0⟩ v1 v2 w3L))) := Lib.hid (by rw [tMux_may, tMux_ok]; rfl)
  have Hr : Hid (tMux = if mayL (sysI 4) [v1, v2, w3L] = true then bSys (sysI 4) (muxB (sysI 4) ⟨[], [], 0⟩ v1 v2 w3L) else sys0) := Lib.hid (by rw [if_pos tMux_may, tMux_is])
  have Hv : Hid (zMux = if (mayL (sysI 4) [v1, v2, w3L] && bOk (muxB (sysI 4) ⟨[], [], 0⟩ v1 v2 w3L)) = true then muxBZ (sysI 4) ⟨[], [], 0⟩ w3L else []) := Lib.hid (by rw [tMux_may, tMux_ok, zMux_is]; rfl)
  have Ho2 : Hid (true = (mayL (sysI 4) [v1, w4L] && bOk (xorB (sysI 4) ⟨[], [], 0⟩ v1 w4L))) := Lib.hid (by rw [tXor_may, tXor_ok]; rfl)
  have Hr2 : Hid (tXor = if mayL (sysI 4) [v1, w4L] = true then bSys (sysI 4) (xorB (sysI 4) ⟨[], [], 0⟩ v1 w4L) else sys0) := Lib.hid (by rw [if_pos tXor_may, tXor_is])
  have Hv2 : Hid (zXor = if (mayL (sysI 4) [v1, w4L] && bOk (xorB (sysI 4) ⟨[], [], 0⟩ v1 w4L)) = true then xorBZ (sysI 4) ⟨[], [], 0⟩ v1 w4L else []) := Lib.hid (by rw [tXor_may, tXor_ok, zXor_is]; rfl)
  go_cut [8, 9, 10] (fun s6 s7 s8 wx => CutSL w4.drew tMux zMux true s6 s7 s8 wx)
  case first =>
    rename_i J K' hJ hK
    refine wp_region_drawn [8, 9, 10, 40, 41, 42, 43, 44, 45, 46, 47, 48, 49, 50, 51, 52, 53, 54] (fun d u wx => Below w4.drew.heap.size w4.drew wx ∧ (d 0 = true → u 41 = .agg #[.int .i64 4, .slice none 0 0, .slice none 0 0, .slice none 0 0]) ∧ (d 1 = true → u 42 = .slice (some ⟨rb, ro, none⟩) 4 kl) ∧ (d 2 = true → u 43 = .pointer (some ⟨rb, ro, none⟩)) ∧ (d 3 = true → u 44 = .agg #[.slice xa 1 ka]) ∧ (d 4 = true → u 45 = .slice (some ⟨rb, ro, none⟩) 4 kl) ∧ (d 5 = true → u 46 = .pointer (some ⟨rb, ro + 1, none⟩)) ∧ (d 6 = true → u 47 = .agg #[.slice xb 1 kb]) ∧ (d 7 = true → u 48 = .slice (some ⟨rb, ro, none⟩) 4 kl) ∧ (d 8 = true → u 49 = .pointer (some ⟨rb, ro + 2, none⟩)) ∧ (d 9 = true → u 50 = .agg #[.slice xf 1 kf]) ∧ ResSL w4.drew tMux zMux true (d 10) (d 11) (d 12) (d 13) (d 14) (d 15) (d 16) (d 17) (d 18) (d 19) (u 51) (u 40) (u 52) (u 53) (u 54) (u 8) (u 9) (u 10) wx) (by kernel_rfl) (by kernel_rfl) (by kernel_rfl) ?_ ?_ ?_
    · intro u; exact ⟨Below.refl _ _, vac rfl, vac rfl, vac rfl, vac rfl, vac rfl, vac rfl, vac rfl, vac rfl, vac rfl, vac rfl, ResSL.start⟩
    · refine ⟨?_, ?_, ?_, ?_, ?_, ?_, ?_, ?_, ?_, ?_, ?_, ?_, ?_, ?_, ?_, ?_, ?_, ?_, ?_, ?_, trivial⟩
      · intro d u wx h0 hd hF
        obtain ⟨hb, f0, f1, f2, f3, f4, f5, f6, f7, f8, f9, fR⟩ := hF
        have sz := hb.size
        refine Wpv.env fun ρ hin hout hcon hfun => ?_
        have E2 : ρ (.tmp 6) = .pointer (some ⟨w3.heap.size, 0, none⟩) := (hout 6 (by kernel_rfl)).trans (by kernel_rfl)
        clear hin hout
        have c0 := cell_keep hb s0_1
        have c1 := cell_keep hb s1_1
        have c2 := cell_keep hb s2_1
        have c3 := cell_keep hb s3_1
        refine Wpv.value (v := .agg #[.int .i64 4, .slice none 0 0, .slice none 0 0, .slice none 0 0]) (w' := wx) ?_ ⟨hb, fun _ => rfl, f1, f2, f3, f4, f5, f6, f7, f8, f9, fR⟩
        clear f0 f1 f2 f3 f4 f5 f6 f7 f8 f9 fR
        simp only [execOp]; rw [E2]; go_simp
      · intro d u wx h0 hd hF
        obtain ⟨hb, f0, f1, f2, f3, f4, f5, f6, f7, f8, f9, fR⟩ := hF
        have sz := hb.size
        refine Wpv.env fun ρ hin hout hcon hfun => ?_
        have E2 : ρ (.tmp 7) = .slice (some ⟨rb, ro, none⟩) 4 kl := (hout 7 (by kernel_rfl)).trans (by kernel_rfl)
        clear hin hout
        exact Wpv.value (v := .slice (some ⟨rb, ro, none⟩) 4 kl) (by simp only [execOp]; rw [E2]; rfl) ⟨hb, f0, fun _ => rfl, f2, f3, f4, f5, f6, f7, f8, f9, fR⟩
      · intro d u wx h0 hd hF
        obtain ⟨hb, f0, f1, f2, f3, f4, f5, f6, f7, f8, f9, fR⟩ := hF
        have sz := hb.size
        refine Wpv.env fun ρ hin hout hcon hfun => ?_
        have E2 := (hin 42 (by kernel_rfl)).trans (f1 (hd.get (j := 1) (by kernel_rfl)))
        clear hin hout
        refine Wpv.value (v := .pointer (some ⟨rb, ro, none⟩)) (w' := wx) ?_ ⟨hb, f0, f1, fun _ => rfl, f3, f4, f5, f6, f7, f8, f9, fR⟩
        clear f0 f1 f2 f3 f4 f5 f6 f7 f8 f9 fR
        go_simp
      · intro d u wx h0 hd hF
        obtain ⟨hb, f0, f1, f2, f3, f4, f5, f6, f7, f8, f9, fR⟩ := hF
        have sz := hb.size
        refine Wpv.env fun ρ hin hout hcon hfun => ?_
        have E2 := (hin 43 (by kernel_rfl)).trans (f2 (hd.get (j := 2) (by kernel_rfl)))
        clear hin hout
        have c0 := cell_keep hb ca'_1
        refine Wpv.value (v := .agg #[.slice xa 1 ka]) (w' := wx) ?_ ⟨hb, f0, f1, f2, fun _ => rfl, f4, f5, f6, f7, f8, f9, fR⟩
        clear f0 f1 f2 f3 f4 f5 f6 f7 f8 f9 fR
        go_simp
      · intro d u wx h0 hd hF
        obtain ⟨hb, f0, f1, f2, f3, f4, f5, f6, f7, f8, f9, fR⟩ := hF
        have sz := hb.size
        refine Wpv.env fun ρ hin hout hcon hfun => ?_
        have E2 : ρ (.tmp 7) = .slice (some ⟨rb, ro, none⟩) 4 kl := (hout 7 (by kernel_rfl)).trans (by kernel_rfl)
        clear hin hout
        exact Wpv.value (v := .slice (some ⟨rb, ro, none⟩) 4 kl) (by simp only [execOp]; rw [E2]; rfl) ⟨hb, f0, f1, f2, f3, fun _ => rfl, f5, f6, f7, f8, f9, fR⟩
      · intro d u wx h0 hd hF
        obtain ⟨hb, f0, f1, f2, f3, f4, f5, f6, f7, f8, f9, fR⟩ := hF
        have sz := hb.size
        refine Wpv.env fun ρ hin hout hcon hfun => ?_
        have E2 := (hin 45 (by kernel_rfl)).trans (f4 (hd.get (j := 4) (by kernel_rfl)))
        clear hin hout
        refine Wpv.value (v := .pointer (some ⟨rb, ro + 1, none⟩)) (w' := wx) ?_ ⟨hb, f0, f1, f2, f3, f4, fun _ => rfl, f6, f7, f8, f9, fR⟩
        clear f0 f1 f2 f3 f4 f5 f6 f7 f8 f9 fR
        go_simp
      · intro d u wx h0 hd hF
        obtain ⟨hb, f0, f1, f2, f3, f4, f5, f6, f7, f8, f9, fR⟩ := hF
        have sz := hb.size
        refine Wpv.env fun ρ hin hout hcon hfun => ?_
        have E2 := (hin 46 (by kernel_rfl)).trans (f5 (hd.get (j := 5) (by kernel_rfl)))
        clear hin hout
        have c0 := cell_keep hb cb'_1
        refine Wpv.value (v := .agg #[.slice xb 1 kb]) (w' := wx) ?_ ⟨hb, f0, f1, f2, f3, f4, f5, fun _ => rfl, f7, f8, f9, fR⟩
        clear f0 f1 f2 f3 f4 f5 f6 f7 f8 f9 fR
        go_simp
      · intro d u wx h0 hd hF
        obtain ⟨hb, f0, f1, f2, f3, f4, f5, f6, f7, f8, f9, fR⟩ := hF
        have sz := hb.size
        refine Wpv.env fun ρ hin hout hcon hfun => ?_
        have E2 : ρ (.tmp 7) = .slice (some ⟨rb, ro, none⟩) 4 kl := (hout 7 (by kernel_rfl)).trans (by kernel_rfl)
        clear hin hout
        exact Wpv.value (v := .slice (some ⟨rb, ro, none⟩) 4 kl) (by simp only [execOp]; rw [E2]; rfl) ⟨hb, f0, f1, f2, f3, f4, f5, f6, fun _ => rfl, f8, f9, fR⟩
      · intro d u wx h0 hd hF
        obtain ⟨hb, f0, f1, f2, f3, f4, f5, f6, f7, f8, f9, fR⟩ := hF
        have sz := hb.size
        refine Wpv.env fun ρ hin hout hcon hfun => ?_
        have E2 := (hin 48 (by kernel_rfl)).trans (f7 (hd.get (j := 7) (by kernel_rfl)))
        clear hin hout
        refine Wpv.value (v := .pointer (some ⟨rb, ro + 2, none⟩)) (w' := wx) ?_ ⟨hb, f0, f1, f2, f3, f4, f5, f6, f7, fun _ => rfl, f9, fR⟩
        clear f0 f1 f2 f3 f4 f5 f6 f7 f8 f9 fR
        go_simp
      · intro d u wx h0 hd hF
        obtain ⟨hb, f0, f1, f2, f3, f4, f5, f6, f7, f8, f9, fR⟩ := hF
        have sz := hb.size
        refine Wpv.env fun ρ hin hout hcon hfun => ?_
        have E2 := (hin 49 (by kernel_rfl)).trans (f8 (hd.get (j := 8) (by kernel_rfl)))
        clear hin hout
        have c0 := cell_keep hb cf'_1
        refine Wpv.value (v := .agg #[.slice xf 1 kf]) (w' := wx) ?_ ⟨hb, f0, f1, f2, f3, f4, f5, f6, f7, f8, fun _ => rfl, fR⟩
        clear f0 f1 f2 f3 f4 f5 f6 f7 f8 f9 fR
        go_simp
      · intro d u wx h0 hd hF
        obtain ⟨hb, f0, f1, f2, f3, f4, f5, f6, f7, f8, f9, fR⟩ := hF
        have sz := hb.size
        refine Wpv.env fun ρ hin hout hcon hfun => ?_
        have E2 := (hin 41 (by kernel_rfl)).trans (f0 (hd.get (j := 0) (by kernel_rfl)))
        have A0 := (hin 44 (by kernel_rfl)).trans (f3 (hd.get (j := 3) (by kernel_rfl)))
        have A1 := (hin 47 (by kernel_rfl)).trans (f6 (hd.get (j := 6) (by kernel_rfl)))
        have A2 := (hin 50 (by kernel_rfl)).trans (f9 (hd.get (j := 9) (by kernel_rfl)))
        clear hin hout
        rw [h0] at fR
        refine Wpv.enter (f := 16) (args := #[.agg #[.int .i64 4, .slice none 0 0, .slice none 0 0, .slice none 0 0], .agg #[.slice xa 1 ka], .agg #[.slice xb 1 kb], .agg #[.slice xf 1 kf]]) (w' := wx) (by clear f0 f1 f2 f3 f4 f5 f6 f7 f8 f9 fR; go_simp) (addMux_impl false 0 0 _ _ _ _ (sysI 4) false 0 w3.heap.size _ v1 false 0 w3.heap.size _ v2 false 0 w3.heap.size _ w3L wx (sysI_R 4 F4 wx) (Nat.zero_le _) (sysI_small 4) (ta'_1.keep hb (by omega)) (by omega) (tb'_1.keep hb (by omega)) (by omega) (tf'_1.keep hb (by omega)) (by omega) (by simp [v1]) (by simp [v2]) (by simp [w3L]) true tMux zMux Ho Hr Hv) ?_
        intro e' w' hq
        obtain ⟨uu, hu, j1, hr⟩ := ResSL.main fR hb hq
        exact ⟨uu, hu, ⟨hb.trans (j1.mono sz), f0, f1, f2, f3, f4, f5, f6, f7, f8, f9, hr⟩⟩
      · intro d u wx h0 hd hF
        obtain ⟨hb, f0, f1, f2, f3, f4, f5, f6, f7, f8, f9, fR⟩ := hF
        have sz := hb.size
        refine Wpv.env fun ρ hin hout hcon hfun => ?_
        have E1 := hin 51 (by kernel_rfl)
        clear hin hout
        exact Wpv.value (v := u 51) (by simp only [execOp]; rw [E1]; rfl) ⟨hb, f0, f1, f2, f3, f4, f5, f6, f7, f8, f9, (ResSL.moveD (hd.get (j := 10) (by kernel_rfl)) fR)⟩
      · intro d u wx h0 hd hF
        obtain ⟨hb, f0, f1, f2, f3, f4, f5, f6, f7, f8, f9, fR⟩ := hF
        have sz := hb.size
        refine Wpv.env fun ρ hin hout hcon hfun => ?_
        have E1 := hin 40 (by kernel_rfl)
        clear hin hout
        have hm : d 11 = true := hd.get (j := 11) (by kernel_rfl)
        obtain ⟨x, y, b, e⟩ := ResSL.tupD hm fR
        have e1 := E1.trans e
        refine Wpv.value (v := x) (w' := wx) (by clear e E1 f0 f1 f2 f3 f4 f5 f6 f7 f8 f9 fR; go_simp) ⟨hb, f0, f1, f2, f3, f4, f5, f6, f7, f8, f9, (ResSL.ex0D hm e fR)⟩
      · intro d u wx h0 hd hF
        obtain ⟨hb, f0, f1, f2, f3, f4, f5, f6, f7, f8, f9, fR⟩ := hF
        have sz := hb.size
        refine Wpv.env fun ρ hin hout hcon hfun => ?_
        have E1 := hin 40 (by kernel_rfl)
        clear hin hout
        have hm : d 11 = true := hd.get (j := 11) (by kernel_rfl)
        obtain ⟨x, y, b, e⟩ := ResSL.tupD hm fR
        have e1 := E1.trans e
        refine Wpv.value (v := y) (w' := wx) (by clear e E1 f0 f1 f2 f3 f4 f5 f6 f7 f8 f9 fR; go_simp) ⟨hb, f0, f1, f2, f3, f4, f5, f6, f7, f8, f9, (ResSL.ex1D hm e fR)⟩
      · intro d u wx h0 hd hF
        obtain ⟨hb, f0, f1, f2, f3, f4, f5, f6, f7, f8, f9, fR⟩ := hF
        have sz := hb.size
        refine Wpv.env fun ρ hin hout hcon hfun => ?_
        have E1 := hin 40 (by kernel_rfl)
        clear hin hout
        have hm : d 11 = true := hd.get (j := 11) (by kernel_rfl)
        obtain ⟨x, y, b, e⟩ := ResSL.tupD hm fR
        have e1 := E1.trans e
        refine Wpv.value (v := b) (w' := wx) (by clear e E1 f0 f1 f2 f3 f4 f5 f6 f7 f8 f9 fR; go_simp) ⟨hb, f0, f1, f2, f3, f4, f5, f6, f7, f8, f9, (ResSL.ex2D hm e fR)⟩
      · intro d u wx h0 hd hF
        obtain ⟨hb, f0, f1, f2, f3, f4, f5, f6, f7, f8, f9, fR⟩ := hF
        have sz := hb.size
        refine Wpv.env fun ρ hin hout hcon hfun => ?_
        clear hin hout
        rw [h0] at fR
        have j1 : Below wx.heap.size wx (wx.alloc (.cells #[.int .i64 0, .slice none 0 0, .slice none 0 0, .slice none 0 0] 31)) := balloc (Nat.le_refl _) (Below.refl _ _) _
        refine Wpv.value (v := .pointer (some ⟨wx.heap.size, 0, none⟩)) (w' := wx.alloc (.cells #[.int .i64 0, .slice none 0 0, .slice none 0 0, .slice none 0 0] 31)) (by clear f0 f1 f2 f3 f4 f5 f6 f7 f8 f9 fR; go_simp) ⟨hb.trans (j1.mono sz), f0, f1, f2, f3, f4, f5, f6, f7, f8, f9, fR.boxA hb⟩
      · intro d u wx h0 hd hF
        obtain ⟨hb, f0, f1, f2, f3, f4, f5, f6, f7, f8, f9, fR⟩ := hF
        have sz := hb.size
        refine Wpv.env fun ρ hin hout hcon hfun => ?_
        clear hin hout
        rw [h0] at fR
        have j1 : Below wx.heap.size wx (wx.alloc (.cells #[.slice none 0 0] 38)) := balloc (Nat.le_refl _) (Below.refl _ _) _
        refine Wpv.value (v := .pointer (some ⟨wx.heap.size, 0, none⟩)) (w' := wx.alloc (.cells #[.slice none 0 0] 38)) (by clear f0 f1 f2 f3 f4 f5 f6 f7 f8 f9 fR; go_simp) ⟨hb.trans (j1.mono sz), f0, f1, f2, f3, f4, f5, f6, f7, f8, f9, fR.boxB hb⟩
      · intro d u wx h0 hd hF
        obtain ⟨hb, f0, f1, f2, f3, f4, f5, f6, f7, f8, f9, fR⟩ := hF
        have sz := hb.size
        refine Wpv.env fun ρ hin hout hcon hfun => ?_
        have Ea := hin 8 (by kernel_rfl)
        have Eb := hin 52 (by kernel_rfl)
        clear hin hout
        obtain ⟨gg, n0, a1, n1, k1, a2, n2, k2, a3, n3, k3, z0, z1, z2, z3, e1, e2, fr, bx⟩ := ResSL.preAD (hd.get (j := 12) (by kernel_rfl)) (hd.get (j := 15) (by kernel_rfl)) fR
        obtain ⟨c0, c1, c2, c3⟩ := id bx
        obtain ⟨r0, r1, r2, r3⟩ := id fr
        obtain ⟨lg, fR'⟩ := ResSL.setAD (hd.get (j := 12) (by kernel_rfl)) (hd.get (j := 15) (by kernel_rfl)) e1 e2 fR
        have y1 := Ea.trans e1
        have y2 := Eb.trans e2
        refine Wpv.skip (w' := set4 wx gg (.int .i64 n0) (.slice a1 n1 k1) (.slice a2 n2 k2) (.slice a3 n3 k3)) (by unfold set4; clear fR' e1 e2 Ea Eb bx fr f0 f1 f2 f3 f4 f5 f6 f7 f8 f9 fR; go_simp) ?_
        exact ⟨set4_below hb lg _ _ _ _, f0, f1, f2, f3, f4, f5, f6, f7, f8, f9, fR'⟩
      · intro d u wx h0 hd hF
        obtain ⟨hb, f0, f1, f2, f3, f4, f5, f6, f7, f8, f9, fR⟩ := hF
        have sz := hb.size
        refine Wpv.env fun ρ hin hout hcon hfun => ?_
        have Ea := hin 9 (by kernel_rfl)
        have Eb := hin 53 (by kernel_rfl)
        clear hin hout
        obtain ⟨gg, a1, n1, k1, z0, e1, e2, r0, c0⟩ := ResSL.preBD (hd.get (j := 13) (by kernel_rfl)) (hd.get (j := 16) (by kernel_rfl)) fR
        obtain ⟨lg, fR'⟩ := ResSL.setBD (hd.get (j := 13) (by kernel_rfl)) (hd.get (j := 16) (by kernel_rfl)) e1 e2 fR
        have y1 := Ea.trans e1
        have y2 := Eb.trans e2
        refine Wpv.skip (w' := wx.setCell ⟨gg, 0, none⟩ (.slice a1 n1 k1)) (by clear fR' e1 e2 Ea Eb f0 f1 f2 f3 f4 f5 f6 f7 f8 f9 fR; go_simp) ?_
        exact ⟨bset lg hb _, f0, f1, f2, f3, f4, f5, f6, f7, f8, f9, fR'⟩
      · intro d u wx h0 hd hF
        obtain ⟨hb, f0, f1, f2, f3, f4, f5, f6, f7, f8, f9, fR⟩ := hF
        have sz := hb.size
        refine Wpv.env fun ρ hin hout hcon hfun => ?_
        have E1 := hin 54 (by kernel_rfl)
        clear hin hout
        exact Wpv.value (v := u 54) (by simp only [execOp]; rw [E1]; rfl) ⟨hb, f0, f1, f2, f3, f4, f5, f6, f7, f8, f9, (ResSL.finD (hd.get (j := 14) (by kernel_rfl)) fR)⟩
    · intro d u wx hall hF
      obtain ⟨hb, f0, f1, f2, f3, f4, f5, f6, f7, f8, f9, fR⟩ := hF
      have fC := ResSL.cutD fR hb (hall 10 (by decide)) (hall 15 (by decide)) (hall 16 (by decide)) (hall 17 (by decide)) (hall 18 (by decide)) (hall 19 (by decide))
      clear f0 f1 f2 f3 f4 f5 f6 f7 f8 f9 fR
      refine hK _ _ (Met.intro (hJ _ _ ?_))
      simp only [setF, List.foldl_cons, List.foldl_nil, Act.put, List.setIfInBounds_toArray, List.set_cons_zero, List.set_cons_succ]
      repeat apply Exists.intro
      exact ⟨fC, rfl⟩
  obtain ⟨gT, kT, uiT, uoT, uhT, ucT, uvT, rfl, rfl, rfl, hgT, hkT, ⟨b0T, b1T, b2T, b3T⟩, bzT, tT, tzT, BT⟩ := hcut
  obtain ⟨aoT, koT, ahT, khT, acT, kcT, rfl, rfl, rfl, rfl, -⟩ := id tT.shape
  obtain ⟨azT, kzT, rfl, -, -⟩ := id tzT.shape
  obtain ⟨w5, hw5⟩ : ∃ x, x = wc := ⟨_, rfl⟩
  subst hw5
  have z5 := BT.size
  have be5 : Below w.heap.size w w5 := be4.trans ((d4.trans BT).mono be4.size)
  have s0_2 := cell_keep BT s0_1
  have s1_2 := cell_keep BT s1_1
  have s2_2 := cell_keep BT s2_1
  have s3_2 := cell_keep BT s3_1
  have cc_2 := cell_keep BT cc_1
  have cx_2 := cell_keep BT cx_1
  have cy_2 := cell_keep BT cy_1
  have cd_2 := cell_keep BT cd_1
  have ca_2 := cell_keep BT ca'_1
  have cb_2 := cell_keep BT cb'_1
  have cf_2 := cell_keep BT cf'_1
  have cg_2 := cell_keep BT cg'_1
  have ta_2 := ta'_1.keep BT (by omega)
  have tb_2 := tb'_1.keep BT (by omega)
  have tf_2 := tf'_1.keep BT (by omega)
  have tg_2 := tg'_1.keep BT (by omega)
  clear s0_1 s1_1 s2_1 s3_1 cc_1 cx_1 cy_1 cd_1 ca'_1 cb'_1 cf'_1 cg'_1 ta'_1 tb'_1 tf'_1 tg'_1
  clear Ho Hr Hv
  obtain ⟨solT, tolT⟩ := mux_sol (d := d) HCB.out HLX.out HLY.out HLD.out
  have HSOT := Lib.hid solT
  have HTOT := Lib.hid tolT
  clear solT tolT
  have lgT : gT < w5.heap.size := World.block_lt_of_cell? _ _ b0T
  have lkT : kT < w5.heap.size := World.block_lt_of_cell? _ _ bzT
  go_wp2_with fail
  refine name_call fun y6 hy6 => ?_
  have ey6 : Below w5.heap.size w5 y6 := by rw [hy6]; (repeat (with_reducible first | exact bR _ _ | assumption | refine bD ?_ | refine bN ?_ _ | refine bA ?_ _ | refine bS ?_ _))
  have zy6 : w5.heap.size + 1 ≤ y6.heap.size := by rw [hy6]; simp
  have cr6 : y6.cell? ⟨w5.heap.size, 0, none⟩ = some (.slice azT zMux.length kzT) := by rw [hy6]; first | (simp; done) | go_simp
  clear hy6
  have by6 := be5.trans (ey6.mono be5.size)
  have s0_3 := cell_keep ey6 s0_2
  have s1_3 := cell_keep ey6 s1_2
  have s2_3 := cell_keep ey6 s2_2
  have s3_3 := cell_keep ey6 s3_2
  have cc_3 := cell_keep ey6 cc_2
  have cx_3 := cell_keep ey6 cx_2
  have cy_3 := cell_keep ey6 cy_2
  have cd_3 := cell_keep ey6 cd_2
  have ca_3 := cell_keep ey6 ca_2
  have cb_3 := cell_keep ey6 cb_2
  have cf_3 := cell_keep ey6 cf_2
  have cg_3 := cell_keep ey6 cg_2
  have b0T_3 := cell_keep ey6 b0T
  have b1T_3 := cell_keep ey6 b1T
  have b2T_3 := cell_keep ey6 b2T
  have b3T_3 := cell_keep ey6 b3T
  have ta_3 := ta_2.keep ey6 (by omega)
  have tb_3 := tb_2.keep ey6 (by omega)
  have tf_3 := tf_2.keep ey6 (by omega)
  have tg_3 := tg_2.keep ey6 (by omega)
  have tT_3 := tT.keep ey6 (by omega)
  have tzT_3 := tzT.keep ey6 (by omega)
  clear s0_2 s1_2 s2_2 s3_2 cc_2 cx_2 cy_2 cd_2 ca_2 cb_2 cf_2 cg_2 b0T b1T b2T b3T ta_2 tb_2 tf_2 tg_2 tT tzT
  have tx6 := ints4 fc fx fy fd cc_3 cx_3 cy_3 cd_3 (by omega)
  have tl6 := lin1 tzT_3 (by omega) cr6 (by omega)
  refine (told_any false 0 w5.heap.size _ _ _ _ tMux y6.heap.size _ [c, x, y, d] false 0 y6.heap.size _ [zMux] y6 tT_3 (by omega) tx6 (Nat.le_refl _) tl6 (Nat.le_refl _) (by simp) (by simp [tMux]) (by simp [tMux]) (by simp [tMux]) (by simp) (fun _ z hz => by rw [List.mem_singleton] at hz; subst hz; exact zMux_in) true HSOT.out _ HTOT.out).mono ?_; rintro e w6 ⟨u6, rfl, f6, n6⟩
  clear tx6 tl6 cr6 bzT
  have zf6 := f6.size
  have bf6 := by6.trans (f6.mono by6.size)
  have s0_4 := cell_keep f6 s0_3
  have s1_4 := cell_keep f6 s1_3
  have s2_4 := cell_keep f6 s2_3
  have s3_4 := cell_keep f6 s3_3
  have cc_4 := cell_keep f6 cc_3
  have cx_4 := cell_keep f6 cx_3
  have cy_4 := cell_keep f6 cy_3
  have cd_4 := cell_keep f6 cd_3
  have ca_4 := cell_keep f6 ca_3
  have cb_4 := cell_keep f6 cb_3
  have cf_4 := cell_keep f6 cf_3
  have cg_4 := cell_keep f6 cg_3
  have b0T_4 := cell_keep f6 b0T_3
  have b1T_4 := cell_keep f6 b1T_3
  have b2T_4 := cell_keep f6 b2T_3
  have b3T_4 := cell_keep f6 b3T_3
  have ta_4 := ta_3.keep f6 (by omega)
  have tb_4 := tb_3.keep f6 (by omega)
  have tf_4 := tf_3.keep f6 (by omega)
  have tg_4 := tg_3.keep f6 (by omega)
  have tT_4 := tT_3.keep f6 (by omega)
  have tzT_4 := tzT_3.keep f6 (by omega)
  clear s0_3 s1_3 s2_3 s3_3 cc_3 cx_3 cy_3 cd_3 ca_3 cb_3 cf_3 cg_3 b0T_3 b1T_3 b2T_3 b3T_3 ta_3 tb_3 tf_3 tg_3 tT_3 tzT_3
  obtain ⟨r6, q6, rfl, -, -⟩ := n6.shape
  obtain ⟨rb6, ro6, vv6, rfl, cv6, ev6, -⟩ := n6.at (k := 0) (by simp)
  simp only [List.getElem?_cons_zero, Option.some.injEq] at ev6
  subst ev6
  rw [Nat.add_zero] at cv6
  clear n6
  have d6 : Below w6.heap.size w6 w6.drew := (Below.refl _ _).drew
  have zd6 : w6.drew.heap.size = w6.heap.size := rfl
  have s0_5 := cell_keep d6 s0_4
  have s1_5 := cell_keep d6 s1_4
  have s2_5 := cell_keep d6 s2_4
  have s3_5 := cell_keep d6 s3_4
  have cc_5 := cell_keep d6 cc_4
  have cx_5 := cell_keep d6 cx_4
  have cy_5 := cell_keep d6 cy_4
  have cd_5 := cell_keep d6 cd_4
  have ca_5 := cell_keep d6 ca_4
  have cb_5 := cell_keep d6 cb_4
  have cf_5 := cell_keep d6 cf_4
  have cg_5 := cell_keep d6 cg_4
  have b0T_5 := cell_keep d6 b0T_4
  have b1T_5 := cell_keep d6 b1T_4
  have b2T_5 := cell_keep d6 b2T_4
  have b3T_5 := cell_keep d6 b3T_4
  have cv6_5 := cell_keep d6 cv6
  have ta_5 := ta_4.keep d6 (by omega)
  have tb_5 := tb_4.keep d6 (by omega)
  have tf_5 := tf_4.keep d6 (by omega)
  have tg_5 := tg_4.keep d6 (by omega)
  have tT_5 := tT_4.keep d6 (by omega)
  have tzT_5 := tzT_4.keep d6 (by omega)
  clear s0_4 s1_4 s2_4 s3_4 cc_4 cx_4 cy_4 cd_4 ca_4 cb_4 cf_4 cg_4 b0T_4 b1T_4 b2T_4 b3T_4 cv6 ta_4 tb_4 tf_4 tg_4 tT_4 tzT_4
  go_wp2_with fail
  go_cut [13, 14, 15] (fun s6 s7 s8 wx => CutSL w6.drew tXor zXor true s6 s7 s8 wx)
  case first =>
    rename_i J K' hJ hK
    refine wp_region_drawn [13, 14, 15, 63, 64, 65, 66, 67, 68, 69, 70, 71, 72, 73, 74] (fun d u wx => Below w6.drew.heap.size w6.drew wx ∧ (d 0 = true → u 64 = .agg #[.int .i64 4, .slice none 0 0, .slice none 0 0, .slice none 0 0]) ∧ (d 1 = true → u 65 = .slice (some ⟨rb, ro, none⟩) 4 kl) ∧ (d 2 = true → u 66 = .pointer (some ⟨rb, ro, none⟩)) ∧ (d 3 = true → u 67 = .agg #[.slice xa 1 ka]) ∧ (d 4 = true → u 68 = .slice (some ⟨rb, ro, none⟩) 4 kl) ∧ (d 5 = true → u 69 = .pointer (some ⟨rb, ro + 3, none⟩)) ∧ (d 6 = true → u 70 = .agg #[.slice xg 1 kg]) ∧ ResSL w6.drew tXor zXor true (d 7) (d 8) (d 9) (d 10) (d 11) (d 12) (d 13) (d 14) (d 15) (d 16) (u 71) (u 63) (u 72) (u 73) (u 74) (u 13) (u 14) (u 15) wx) (by kernel_rfl) (by kernel_rfl) (by kernel_rfl) ?_ ?_ ?_
    · intro u; exact ⟨Below.refl _ _, vac rfl, vac rfl, vac rfl, vac rfl, vac rfl, vac rfl, vac rfl, ResSL.start⟩
    · refine ⟨?_, ?_, ?_, ?_, ?_, ?_, ?_, ?_, ?_, ?_, ?_, ?_, ?_, ?_, ?_, ?_, ?_, trivial⟩
      · intro d u wx h0 hd hF
        obtain ⟨hb, f0, f1, f2, f3, f4, f5, f6, fR⟩ := hF
        have sz := hb.size
        refine Wpv.env fun ρ hin hout hcon hfun => ?_
        have E2 : ρ (.tmp 6) = .pointer (some ⟨w3.heap.size, 0, none⟩) := (hout 6 (by kernel_rfl)).trans (by kernel_rfl)
        clear hin hout
        have c0 := cell_keep hb s0_5
        have c1 := cell_keep hb s1_5
        have c2 := cell_keep hb s2_5
        have c3 := cell_keep hb s3_5
        refine Wpv.value (v := .agg #[.int .i64 4, .slice none 0 0, .slice none 0 0, .slice none 0 0]) (w' := wx) ?_ ⟨hb, fun _ => rfl, f1, f2, f3, f4, f5, f6, fR⟩
        clear f0 f1 f2 f3 f4 f5 f6 fR
        simp only [execOp]; rw [E2]; go_simp
      · intro d u wx h0 hd hF
        obtain ⟨hb, f0, f1, f2, f3, f4, f5, f6, fR⟩ := hF
        have sz := hb.size
        refine Wpv.env fun ρ hin hout hcon hfun => ?_
        have E2 : ρ (.tmp 7) = .slice (some ⟨rb, ro, none⟩) 4 kl := (hout 7 (by kernel_rfl)).trans (by kernel_rfl)
        clear hin hout
        exact Wpv.value (v := .slice (some ⟨rb, ro, none⟩) 4 kl) (by simp only [execOp]; rw [E2]; rfl) ⟨hb, f0, fun _ => rfl, f2, f3, f4, f5, f6, fR⟩
      · intro d u wx h0 hd hF
        obtain ⟨hb, f0, f1, f2, f3, f4, f5, f6, fR⟩ := hF
        have sz := hb.size
        refine Wpv.env fun ρ hin hout hcon hfun => ?_
        have E2 := (hin 65 (by kernel_rfl)).trans (f1 (hd.get (j := 1) (by kernel_rfl)))
        clear hin hout
        refine Wpv.value (v := .pointer (some ⟨rb, ro, none⟩)) (w' := wx) ?_ ⟨hb, f0, f1, fun _ => rfl, f3, f4, f5, f6, fR⟩
        clear f0 f1 f2 f3 f4 f5 f6 fR
        go_simp
      · intro d u wx h0 hd hF
        obtain ⟨hb, f0, f1, f2, f3, f4, f5, f6, fR⟩ := hF
        have sz := hb.size
        refine Wpv.env fun ρ hin hout hcon hfun => ?_
        have E2 := (hin 66 (by kernel_rfl)).trans (f2 (hd.get (j := 2) (by kernel_rfl)))
        clear hin hout
        have c0 := cell_keep hb ca_5
        refine Wpv.value (v := .agg #[.slice xa 1 ka]) (w' := wx) ?_ ⟨hb, f0, f1, f2, fun _ => rfl, f4, f5, f6, fR⟩
        clear f0 f1 f2 f3 f4 f5 f6 fR
        go_simp
      · intro d u wx h0 hd hF
        obtain ⟨hb, f0, f1, f2, f3, f4, f5, f6, fR⟩ := hF
        have sz := hb.size
        refine Wpv.env fun ρ hin hout hcon hfun => ?_
        have E2 : ρ (.tmp 7) = .slice (some ⟨rb, ro, none⟩) 4 kl := (hout 7 (by kernel_rfl)).trans (by kernel_rfl)
        clear hin hout
        exact Wpv.value (v := .slice (some ⟨rb, ro, none⟩) 4 kl) (by simp only [execOp]; rw [E2]; rfl) ⟨hb, f0, f1, f2, f3, fun _ => rfl, f5, f6, fR⟩
      · intro d u wx h0 hd hF
        obtain ⟨hb, f0, f1, f2, f3, f4, f5, f6, fR⟩ := hF
        have sz := hb.size
        refine Wpv.env fun ρ hin hout hcon hfun => ?_
        have E2 := (hin 68 (by kernel_rfl)).trans (f4 (hd.get (j := 4) (by kernel_rfl)))
        clear hin hout
        refine Wpv.value (v := .pointer (some ⟨rb, ro + 3, none⟩)) (w' := wx) ?_ ⟨hb, f0, f1, f2, f3, f4, fun _ => rfl, f6, fR⟩
        clear f0 f1 f2 f3 f4 f5 f6 fR
        go_simp
      · intro d u wx h0 hd hF
        obtain ⟨hb, f0, f1, f2, f3, f4, f5, f6, fR⟩ := hF
        have sz := hb.size
        refine Wpv.env fun ρ hin hout hcon hfun => ?_
        have E2 := (hin 69 (by kernel_rfl)).trans (f5 (hd.get (j := 5) (by kernel_rfl)))
        clear hin hout
        have c0 := cell_keep hb cg_5
        refine Wpv.value (v := .agg #[.slice xg 1 kg]) (w' := wx) ?_ ⟨hb, f0, f1, f2, f3, f4, f5, fun _ => rfl, fR⟩
        clear f0 f1 f2 f3 f4 f5 f6 fR
        go_simp
      · intro d u wx h0 hd hF
        obtain ⟨hb, f0, f1, f2, f3, f4, f5, f6, fR⟩ := hF
        have sz := hb.size
        refine Wpv.env fun ρ hin hout hcon hfun => ?_
        have E2 := (hin 64 (by kernel_rfl)).trans (f0 (hd.get (j := 0) (by kernel_rfl)))
        have A0 := (hin 67 (by kernel_rfl)).trans (f3 (hd.get (j := 3) (by kernel_rfl)))
        have A1 := (hin 70 (by kernel_rfl)).trans (f6 (hd.get (j := 6) (by kernel_rfl)))
        clear hin hout
        rw [h0] at fR
        refine Wpv.enter (f := 17) (args := #[.agg #[.int .i64 4, .slice none 0 0, .slice none 0 0, .slice none 0 0], .agg #[.slice xa 1 ka], .agg #[.slice xg 1 kg]]) (w' := wx) (by clear f0 f1 f2 f3 f4 f5 f6 fR; go_simp) (addXor_impl false 0 0 _ _ _ _ (sysI 4) false 0 w3.heap.size _ v1 false 0 w3.heap.size _ w4L wx (sysI_R 4 F4 wx) (Nat.zero_le _) (sysI_small 4) (ta_5.keep hb (by omega)) (by omega) (tg_5.keep hb (by omega)) (by omega) (by simp [v1]) (by simp [w4L]) true tXor zXor Ho2 Hr2 Hv2) ?_
        intro e' w' hq
        obtain ⟨uu, hu, j1, hr⟩ := ResSL.main fR hb hq
        exact ⟨uu, hu, ⟨hb.trans (j1.mono sz), f0, f1, f2, f3, f4, f5, f6, hr⟩⟩
      · intro d u wx h0 hd hF
        obtain ⟨hb, f0, f1, f2, f3, f4, f5, f6, fR⟩ := hF
        have sz := hb.size
        refine Wpv.env fun ρ hin hout hcon hfun => ?_
        have E1 := hin 71 (by kernel_rfl)
        clear hin hout
        exact Wpv.value (v := u 71) (by simp only [execOp]; rw [E1]; rfl) ⟨hb, f0, f1, f2, f3, f4, f5, f6, (ResSL.moveD (hd.get (j := 7) (by kernel_rfl)) fR)⟩
      · intro d u wx h0 hd hF
        obtain ⟨hb, f0, f1, f2, f3, f4, f5, f6, fR⟩ := hF
        have sz := hb.size
        refine Wpv.env fun ρ hin hout hcon hfun => ?_
        have E1 := hin 63 (by kernel_rfl)
        clear hin hout
        have hm : d 8 = true := hd.get (j := 8) (by kernel_rfl)
        obtain ⟨x, y, b, e⟩ := ResSL.tupD hm fR
        have e1 := E1.trans e
        refine Wpv.value (v := x) (w' := wx) (by clear e E1 f0 f1 f2 f3 f4 f5 f6 fR; go_simp) ⟨hb, f0, f1, f2, f3, f4, f5, f6, (ResSL.ex0D hm e fR)⟩
      · intro d u wx h0 hd hF
        obtain ⟨hb, f0, f1, f2, f3, f4, f5, f6, fR⟩ := hF
        have sz := hb.size
        refine Wpv.env fun ρ hin hout hcon hfun => ?_
        have E1 := hin 63 (by kernel_rfl)
        clear hin hout
        have hm : d 8 = true := hd.get (j := 8) (by kernel_rfl)
        obtain ⟨x, y, b, e⟩ := ResSL.tupD hm fR
        have e1 := E1.trans e
        refine Wpv.value (v := y) (w' := wx) (by clear e E1 f0 f1 f2 f3 f4 f5 f6 fR; go_simp) ⟨hb, f0, f1, f2, f3, f4, f5, f6, (ResSL.ex1D hm e fR)⟩
      · intro d u wx h0 hd hF
        obtain ⟨hb, f0, f1, f2, f3, f4, f5, f6, fR⟩ := hF
        have sz := hb.size
        refine Wpv.env fun ρ hin hout hcon hfun => ?_
        have E1 := hin 63 (by kernel_rfl)
        clear hin hout
        have hm : d 8 = true := hd.get (j := 8) (by kernel_rfl)
        obtain ⟨x, y, b, e⟩ := ResSL.tupD hm fR
        have e1 := E1.trans e
        refine Wpv.value (v := b) (w' := wx) (by clear e E1 f0 f1 f2 f3 f4 f5 f6 fR; go_simp) ⟨hb, f0, f1, f2, f3, f4, f5, f6, (ResSL.ex2D hm e fR)⟩
      · intro d u wx h0 hd hF
        obtain ⟨hb, f0, f1, f2, f3, f4, f5, f6, fR⟩ := hF
        have sz := hb.size
        refine Wpv.env fun ρ hin hout hcon hfun => ?_
        clear hin hout
        rw [h0] at fR
        have j1 : Below wx.heap.size wx (wx.alloc (.cells #[.int .i64 0, .slice none 0 0, .slice none 0 0, .slice none 0 0] 31)) := balloc (Nat.le_refl _) (Below.refl _ _) _
        refine Wpv.value (v := .pointer (some ⟨wx.heap.size, 0, none⟩)) (w' := wx.alloc (.cells #[.int .i64 0, .slice none 0 0, .slice none 0 0, .slice none 0 0] 31)) (by clear f0 f1 f2 f3 f4 f5 f6 fR; go_simp) ⟨hb.trans (j1.mono sz), f0, f1, f2, f3, f4, f5, f6, fR.boxA hb⟩
      · intro d u wx h0 hd hF
        obtain ⟨hb, f0, f1, f2, f3, f4, f5, f6, fR⟩ := hF
        have sz := hb.size
        refine Wpv.env fun ρ hin hout hcon hfun => ?_
        clear hin hout
        rw [h0] at fR
        have j1 : Below wx.heap.size wx (wx.alloc (.cells #[.slice none 0 0] 38)) := balloc (Nat.le_refl _) (Below.refl _ _) _
        refine Wpv.value (v := .pointer (some ⟨wx.heap.size, 0, none⟩)) (w' := wx.alloc (.cells #[.slice none 0 0] 38)) (by clear f0 f1 f2 f3 f4 f5 f6 fR; go_simp) ⟨hb.trans (j1.mono sz), f0, f1, f2, f3, f4, f5, f6, fR.boxB hb⟩
      · intro d u wx h0 hd hF
        obtain ⟨hb, f0, f1, f2, f3, f4, f5, f6, fR⟩ := hF
        have sz := hb.size
        refine Wpv.env fun ρ hin hout hcon hfun => ?_
        have Ea := hin 13 (by kernel_rfl)
        have Eb := hin 72 (by kernel_rfl)
        clear hin hout
        obtain ⟨gg, n0, a1, n1, k1, a2, n2, k2, a3, n3, k3, z0, z1, z2, z3, e1, e2, fr, bx⟩ := ResSL.preAD (hd.get (j := 9) (by kernel_rfl)) (hd.get (j := 12) (by kernel_rfl)) fR
        obtain ⟨c0, c1, c2, c3⟩ := id bx
        obtain ⟨r0, r1, r2, r3⟩ := id fr
        obtain ⟨lg, fR'⟩ := ResSL.setAD (hd.get (j := 9) (by kernel_rfl)) (hd.get (j := 12) (by kernel_rfl)) e1 e2 fR
        have y1 := Ea.trans e1
        have y2 := Eb.trans e2
        refine Wpv.skip (w' := set4 wx gg (.int .i64 n0) (.slice a1 n1 k1) (.slice a2 n2 k2) (.slice a3 n3 k3)) (by unfold set4; clear fR' e1 e2 Ea Eb bx fr f0 f1 f2 f3 f4 f5 f6 fR; go_simp) ?_
        exact ⟨set4_below hb lg _ _ _ _, f0, f1, f2, f3, f4, f5, f6, fR'⟩
      · intro d u wx h0 hd hF
        obtain ⟨hb, f0, f1, f2, f3, f4, f5, f6, fR⟩ := hF
        have sz := hb.size
        refine Wpv.env fun ρ hin hout hcon hfun => ?_
        have Ea := hin 14 (by kernel_rfl)
        have Eb := hin 73 (by kernel_rfl)
        clear hin hout
        obtain ⟨gg, a1, n1, k1, z0, e1, e2, r0, c0⟩ := ResSL.preBD (hd.get (j := 10) (by kernel_rfl)) (hd.get (j := 13) (by kernel_rfl)) fR
        obtain ⟨lg, fR'⟩ := ResSL.setBD (hd.get (j := 10) (by kernel_rfl)) (hd.get (j := 13) (by kernel_rfl)) e1 e2 fR
        have y1 := Ea.trans e1
        have y2 := Eb.trans e2
        refine Wpv.skip (w' := wx.setCell ⟨gg, 0, none⟩ (.slice a1 n1 k1)) (by clear fR' e1 e2 Ea Eb f0 f1 f2 f3 f4 f5 f6 fR; go_simp) ?_
        exact ⟨bset lg hb _, f0, f1, f2, f3, f4, f5, f6, fR'⟩
      · intro d u wx h0 hd hF
        obtain ⟨hb, f0, f1, f2, f3, f4, f5, f6, fR⟩ := hF
        have sz := hb.size
        refine Wpv.env fun ρ hin hout hcon hfun => ?_
        have E1 := hin 74 (by kernel_rfl)
        clear hin hout
        exact Wpv.value (v := u 74) (by simp only [execOp]; rw [E1]; rfl) ⟨hb, f0, f1, f2, f3, f4, f5, f6, (ResSL.finD (hd.get (j := 11) (by kernel_rfl)) fR)⟩
    · intro d u wx hall hF
      obtain ⟨hb, f0, f1, f2, f3, f4, f5, f6, fR⟩ := hF
      have fC := ResSL.cutD fR hb (hall 7 (by decide)) (hall 12 (by decide)) (hall 13 (by decide)) (hall 14 (by decide)) (hall 15 (by decide)) (hall 16 (by decide))
      clear f0 f1 f2 f3 f4 f5 f6 fR
      refine hK _ _ (Met.intro (hJ _ _ ?_))
      simp only [setF, List.foldl_cons, List.foldl_nil, Act.put, List.setIfInBounds_toArray, List.set_cons_zero, List.set_cons_succ]
      repeat apply Exists.intro
      exact ⟨fC, rfl⟩
  obtain ⟨gU, kU, uiU, uoU, uhU, ucU, uvU, rfl, rfl, rfl, hgU, hkU, ⟨b0U, b1U, b2U, b3U⟩, bzU, tU, tzU, BU⟩ := hcut
  obtain ⟨aoU, koU, ahU, khU, acU, kcU, rfl, rfl, rfl, rfl, -⟩ := id tU.shape
  obtain ⟨azU, kzU, rfl, -, -⟩ := id tzU.shape
  obtain ⟨w7, hw7⟩ : ∃ x, x = wc := ⟨_, rfl⟩
  subst hw7
  have z7 := BU.size
  have be7 : Below w.heap.size w w7 := bf6.trans ((d6.trans BU).mono bf6.size)
  have s0_6 := cell_keep BU s0_5
  have s1_6 := cell_keep BU s1_5
  have s2_6 := cell_keep BU s2_5
  have s3_6 := cell_keep BU s3_5
  have cc_6 := cell_keep BU cc_5
  have cx_6 := cell_keep BU cx_5
  have cy_6 := cell_keep BU cy_5
  have cd_6 := cell_keep BU cd_5
  have ca_6 := cell_keep BU ca_5
  have cb_6 := cell_keep BU cb_5
  have cf_6 := cell_keep BU cf_5
  have cg_6 := cell_keep BU cg_5
  have b0T_6 := cell_keep BU b0T_5
  have b1T_6 := cell_keep BU b1T_5
  have b2T_6 := cell_keep BU b2T_5
  have b3T_6 := cell_keep BU b3T_5
  have cv6_6 := cell_keep BU cv6_5
  have ta_6 := ta_5.keep BU (by omega)
  have tb_6 := tb_5.keep BU (by omega)
  have tf_6 := tf_5.keep BU (by omega)
  have tg_6 := tg_5.keep BU (by omega)
  have tT_6 := tT_5.keep BU (by omega)
  have tzT_6 := tzT_5.keep BU (by omega)
  clear s0_5 s1_5 s2_5 s3_5 cc_5 cx_5 cy_5 cd_5 ca_5 cb_5 cf_5 cg_5 b0T_5 b1T_5 b2T_5 b3T_5 cv6_5 ta_5 tb_5 tf_5 tg_5 tT_5 tzT_5
  clear Ho2 Hr2 Hv2
  obtain ⟨solU, tolU⟩ := xor_sol (x := x) (y := y) HCB.out HLX.out HLY.out HDB.out
  have HSOU := Lib.hid solU
  have HTOU := Lib.hid tolU
  clear solU tolU
  have lgU : gU < w7.heap.size := World.block_lt_of_cell? _ _ b0U
  have lkU : kU < w7.heap.size := World.block_lt_of_cell? _ _ bzU
  go_wp2_with fail
  refine name_call fun y8 hy8 => ?_
  have ey8 : Below w7.heap.size w7 y8 := by rw [hy8]; (repeat (with_reducible first | exact bR _ _ | assumption | refine bD ?_ | refine bN ?_ _ | refine bA ?_ _ | refine bS ?_ _))
  have zy8 : w7.heap.size + 1 ≤ y8.heap.size := by rw [hy8]; simp
  have cr8 : y8.cell? ⟨w7.heap.size, 0, none⟩ = some (.slice azU zXor.length kzU) := by rw [hy8]; first | (simp; done) | go_simp
  clear hy8
  have by8 := be7.trans (ey8.mono be7.size)
  have s0_7 := cell_keep ey8 s0_6
  have s1_7 := cell_keep ey8 s1_6
  have s2_7 := cell_keep ey8 s2_6
  have s3_7 := cell_keep ey8 s3_6
  have cc_7 := cell_keep ey8 cc_6
  have cx_7 := cell_keep ey8 cx_6
  have cy_7 := cell_keep ey8 cy_6
  have cd_7 := cell_keep ey8 cd_6
  have ca_7 := cell_keep ey8 ca_6
  have cb_7 := cell_keep ey8 cb_6
  have cf_7 := cell_keep ey8 cf_6
  have cg_7 := cell_keep ey8 cg_6
  have b0T_7 := cell_keep ey8 b0T_6
  have b1T_7 := cell_keep ey8 b1T_6
  have b2T_7 := cell_keep ey8 b2T_6
  have b3T_7 := cell_keep ey8 b3T_6
  have cv6_7 := cell_keep ey8 cv6_6
  have b0U_7 := cell_keep ey8 b0U
  have b1U_7 := cell_keep ey8 b1U
  have b2U_7 := cell_keep ey8 b2U
  have b3U_7 := cell_keep ey8 b3U
  have ta_7 := ta_6.keep ey8 (by omega)
  have tb_7 := tb_6.keep ey8 (by omega)
  have tf_7 := tf_6.keep ey8 (by omega)
  have tg_7 := tg_6.keep ey8 (by omega)
  have tT_7 := tT_6.keep ey8 (by omega)
  have tzT_7 := tzT_6.keep ey8 (by omega)
  have tU_7 := tU.keep ey8 (by omega)
  have tzU_7 := tzU.keep ey8 (by omega)
  clear s0_6 s1_6 s2_6 s3_6 cc_6 cx_6 cy_6 cd_6 ca_6 cb_6 cf_6 cg_6 b0T_6 b1T_6 b2T_6 b3T_6 cv6_6 b0U b1U b2U b3U ta_6 tb_6 tf_6 tg_6 tT_6 tzT_6 tU tzU
  have tx8 := ints4 fc fx fy fd cc_7 cx_7 cy_7 cd_7 (by omega)
  have tl8 := lin1 tzU_7 (by omega) cr8 (by omega)
  refine (told_any false 0 w7.heap.size _ _ _ _ tXor y8.heap.size _ [c, x, y, d] false 0 y8.heap.size _ [zXor] y8 tU_7 (by omega) tx8 (Nat.le_refl _) tl8 (Nat.le_refl _) (by simp) (by simp [tXor]) (by simp [tXor]) (by simp [tXor]) (by simp) (fun _ z hz => by rw [List.mem_singleton] at hz; subst hz; exact zXor_in) true HSOU.out _ HTOU.out).mono ?_; rintro e w8 ⟨u8, rfl, f8, n8⟩
  clear tx8 tl8 cr8 bzU
  have zf8 := f8.size
  have bf8 := by8.trans (f8.mono by8.size)
  have s0_8 := cell_keep f8 s0_7
  have s1_8 := cell_keep f8 s1_7
  have s2_8 := cell_keep f8 s2_7
  have s3_8 := cell_keep f8 s3_7
  have cc_8 := cell_keep f8 cc_7
  have cx_8 := cell_keep f8 cx_7
  have cy_8 := cell_keep f8 cy_7
  have cd_8 := cell_keep f8 cd_7
  have ca_8 := cell_keep f8 ca_7
  have cb_8 := cell_keep f8 cb_7
  have cf_8 := cell_keep f8 cf_7
  have cg_8 := cell_keep f8 cg_7
  have b0T_8 := cell_keep f8 b0T_7
  have b1T_8 := cell_keep f8 b1T_7
  have b2T_8 := cell_keep f8 b2T_7
  have b3T_8 := cell_keep f8 b3T_7
  have cv6_8 := cell_keep f8 cv6_7
  have b0U_8 := cell_keep f8 b0U_7
  have b1U_8 := cell_keep f8 b1U_7
  have b2U_8 := cell_keep f8 b2U_7
  have b3U_8 := cell_keep f8 b3U_7
  have ta_8 := ta_7.keep f8 (by omega)
  have tb_8 := tb_7.keep f8 (by omega)
  have tf_8 := tf_7.keep f8 (by omega)
  have tg_8 := tg_7.keep f8 (by omega)
  have tT_8 := tT_7.keep f8 (by omega)
  have tzT_8 := tzT_7.keep f8 (by omega)
  have tU_8 := tU_7.keep f8 (by omega)
  have tzU_8 := tzU_7.keep f8 (by omega)
  clear s0_7 s1_7 s2_7 s3_7 cc_7 cx_7 cy_7 cd_7 ca_7 cb_7 cf_7 cg_7 b0T_7 b1T_7 b2T_7 b3T_7 cv6_7 b0U_7 b1U_7 b2U_7 b3U_7 ta_7 tb_7 tf_7 tg_7 tT_7 tzT_7 tU_7 tzU_7
  obtain ⟨r8, q8, rfl, -, -⟩ := n8.shape
  obtain ⟨rb8, ro8, vv8, rfl, cv8, ev8, -⟩ := n8.at (k := 0) (by simp)
  simp only [List.getElem?_cons_zero, Option.some.injEq] at ev8
  subst ev8
  rw [Nat.add_zero] at cv8
  clear n8
  have d8 : Below w8.heap.size w8 w8.drew := (Below.refl _ _).drew
  have zd8 : w8.drew.heap.size = w8.heap.size := rfl
  obtain ⟨X8, hX8⟩ : ∃ X, bits BinOp.xor IntKind.i64 c d = X := ⟨_, rfl⟩
  rw [hX8] at cv8
  have HX := Lib.hid hX8
  have hcb := HCB.out
  clear hX8 HSOT HTOT HSOU HTOU
  have S0 : w8.drew.cell? ⟨w3.heap.size, 0, none⟩ = some (.int .i64 4) := cell_keep d8 s0_8
  have S1 : w8.drew.cell? ⟨w3.heap.size, 1, none⟩ = some (.slice none 0 0) := cell_keep d8 s1_8
  have S2 : w8.drew.cell? ⟨w3.heap.size, 2, none⟩ = some (.slice none 0 0) := cell_keep d8 s2_8
  have S3 : w8.drew.cell? ⟨w3.heap.size, 3, none⟩ = some (.slice none 0 0) := cell_keep d8 s3_8
  have T0 : w8.drew.cell? ⟨gT, 0, none⟩ = some (.int .i64 tMux.ins) := cell_keep d8 b0T_8
  have T1 : w8.drew.cell? ⟨gT, 1, none⟩ = some (.slice aoT tMux.outs.length koT) := cell_keep d8 b1T_8
  have T2 : w8.drew.cell? ⟨gT, 2, none⟩ = some (.slice ahT tMux.hints.length khT) := cell_keep d8 b2T_8
  have T3 : w8.drew.cell? ⟨gT, 3, none⟩ = some (.slice acT tMux.cons.length kcT) := cell_keep d8 b3T_8
  have U0 : w8.drew.cell? ⟨gU, 0, none⟩ = some (.int .i64 tXor.ins) := cell_keep d8 b0U_8
  have U1 : w8.drew.cell? ⟨gU, 1, none⟩ = some (.slice aoU tXor.outs.length koU) := cell_keep d8 b1U_8
  have U2 : w8.drew.cell? ⟨gU, 2, none⟩ = some (.slice ahU tXor.hints.length khU) := cell_keep d8 b2U_8
  have U3 : w8.drew.cell? ⟨gU, 3, none⟩ = some (.slice acU tXor.cons.length kcU) := cell_keep d8 b3U_8
  have CC : w8.drew.cell? ⟨w1.heap.size, 0, none⟩ = some (.int .i64 c) := cell_keep d8 cc_8
  have CD : w8.drew.cell? ⟨w1.heap.size, 3, none⟩ = some (.int .i64 d) := cell_keep d8 cd_8
  have V8 : w8.drew.cell? ⟨rb8, ro8, none⟩ = some (.int .i64 X8) := cell_keep d8 cv8
  have TT := tT_8.keep d8 (by omega)
  have TU := tU_8.keep d8 (by omega)
  have GT := Lib.hid (grown_yes 0 _ _ _ _ w5.heap.size _ _ _ _ (sysI 4) tMux w8.drew (sysI_R 4 F4 _) (Nat.zero_le _) TT (by omega) sysI4_sys tMux_sys rfl rfl (H := tMux.hints) rfl (C := tMux.cons) rfl)
  have GU := Lib.hid fun (v1 : World) (j1 : Below w8.drew.heap.size w8.drew v1) => grown_yes 0 _ _ _ _ w7.heap.size _ _ _ _ (sysI 4) tXor v1 (sysI_R 4 F4 _) (Nat.zero_le _) (TU.keep j1 (by omega)) (by have := j1.size; omega) sysI4_sys tXor_sys rfl rfl (H := tXor.hints) rfl (C := tXor.cons) rfl
  clear TT TU
  have XX : (X8 == X8) = true := by simp
  have lS : w3.heap.size < w8.drew.heap.size := World.block_lt_of_cell? _ _ S0
  have lT : gT < w8.drew.heap.size := World.block_lt_of_cell? _ _ T0
  have lU : gU < w8.drew.heap.size := World.block_lt_of_cell? _ _ U0
  rcases hcb with q | q
  · have hb : (c == 1) = false := by simp [q]
    have hv : (if c = 1 then x else y) = y := if_neg (by omega)
    have cw := cv6_8
    rw [hv] at cw
    have V6 : w8.drew.cell? ⟨rb6, ro6, none⟩ = some (.int .i64 y) := cell_keep d8 cw
    have WW : (y == y) = true := by simp
    have hX := HX.out
    clear q hv cw cv6_8
    go_wp2_with fail
    go_region_held3 (fun w' => w'.cell? ⟨w3.heap.size, 0, none⟩ = some (.int .i64 4) ∧ w'.cell? ⟨w3.heap.size, 1, none⟩ = some (.slice none 0 0) ∧ w'.cell? ⟨w3.heap.size, 2, none⟩ = some (.slice none 0 0) ∧ w'.cell? ⟨w3.heap.size, 3, none⟩ = some (.slice none 0 0) ∧ w'.cell? ⟨gT, 0, none⟩ = some (.int .i64 tMux.ins) ∧ w'.cell? ⟨gT, 1, none⟩ = some (.slice aoT tMux.outs.length koT) ∧ w'.cell? ⟨gT, 2, none⟩ = some (.slice ahT tMux.hints.length khT) ∧ w'.cell? ⟨gT, 3, none⟩ = some (.slice acT tMux.cons.length kcT) ∧ w'.cell? ⟨gU, 0, none⟩ = some (.int .i64 tXor.ins) ∧ w'.cell? ⟨gU, 1, none⟩ = some (.slice aoU tXor.outs.length koU) ∧ w'.cell? ⟨gU, 2, none⟩ = some (.slice ahU tXor.hints.length khU) ∧ w'.cell? ⟨gU, 3, none⟩ = some (.slice acU tXor.cons.length kcU) ∧ w'.cell? ⟨w1.heap.size, 0, none⟩ = some (.int .i64 c) ∧ w'.cell? ⟨w1.heap.size, 3, none⟩ = some (.int .i64 d) ∧ w'.cell? ⟨rb6, ro6, none⟩ = some (.int .i64 y) ∧ w'.cell? ⟨rb8, ro8, none⟩ = some (.int .i64 X8)) (first | exact ⟨S0, S1, S2, S3, T0, T1, T2, T3, U0, U1, U2, U3, CC, CD, V6, V8⟩ | exact ⟨ck j1 S0, ck j1 S1, ck j1 S2, ck j1 S3, ck j1 T0, ck j1 T1, ck j1 T2, ck j1 T3, ck j1 U0, ck j1 U1, ck j1 U2, ck j1 U3, ck j1 CC, ck j1 CD, ck j1 V6, ck j1 V8⟩ | exact ⟨ck j2 (ck j1 S0), ck j2 (ck j1 S1), ck j2 (ck j1 S2), ck j2 (ck j1 S3), ck j2 (ck j1 T0), ck j2 (ck j1 T1), ck j2 (ck j1 T2), ck j2 (ck j1 T3), ck j2 (ck j1 U0), ck j2 (ck j1 U1), ck j2 (ck j1 U2), ck j2 (ck j1 U3), ck j2 (ck j1 CC), ck j2 (ck j1 CD), ck j2 (ck j1 V6), ck j2 (ck j1 V8)⟩)
      (first
        | (go_at_call 14; (with_reducible refine GT.out.mono ?_); rintro e v1 ⟨rfl, j1⟩)
        | (go_at_call 14; (with_reducible refine (GU.out v1 j1).mono ?_); rintro e v2 ⟨rfl, j2⟩))
    go_wp2_with fail
    go_ret
    exact ⟨rfl, bf8.trans ((d8.trans ((j1.trans (j2.mono j1.size)))).mono bf8.size)⟩
  · have hb : (c == 1) = true := by simp [q]
    have hv : (if c = 1 then x else y) = x := if_pos q
    have cw := cv6_8
    rw [hv] at cw
    have V6 : w8.drew.cell? ⟨rb6, ro6, none⟩ = some (.int .i64 x) := cell_keep d8 cw
    have WW : (x == x) = true := by simp
    have hX := HX.out
    clear q hv cw cv6_8
    go_wp2_with fail
    go_region_held3 (fun w' => w'.cell? ⟨w3.heap.size, 0, none⟩ = some (.int .i64 4) ∧ w'.cell? ⟨w3.heap.size, 1, none⟩ = some (.slice none 0 0) ∧ w'.cell? ⟨w3.heap.size, 2, none⟩ = some (.slice none 0 0) ∧ w'.cell? ⟨w3.heap.size, 3, none⟩ = some (.slice none 0 0) ∧ w'.cell? ⟨gT, 0, none⟩ = some (.int .i64 tMux.ins) ∧ w'.cell? ⟨gT, 1, none⟩ = some (.slice aoT tMux.outs.length koT) ∧ w'.cell? ⟨gT, 2, none⟩ = some (.slice ahT tMux.hints.length khT) ∧ w'.cell? ⟨gT, 3, none⟩ = some (.slice acT tMux.cons.length kcT) ∧ w'.cell? ⟨gU, 0, none⟩ = some (.int .i64 tXor.ins) ∧ w'.cell? ⟨gU, 1, none⟩ = some (.slice aoU tXor.outs.length koU) ∧ w'.cell? ⟨gU, 2, none⟩ = some (.slice ahU tXor.hints.length khU) ∧ w'.cell? ⟨gU, 3, none⟩ = some (.slice acU tXor.cons.length kcU) ∧ w'.cell? ⟨w1.heap.size, 0, none⟩ = some (.int .i64 c) ∧ w'.cell? ⟨w1.heap.size, 3, none⟩ = some (.int .i64 d) ∧ w'.cell? ⟨rb6, ro6, none⟩ = some (.int .i64 x) ∧ w'.cell? ⟨rb8, ro8, none⟩ = some (.int .i64 X8)) (first | exact ⟨S0, S1, S2, S3, T0, T1, T2, T3, U0, U1, U2, U3, CC, CD, V6, V8⟩ | exact ⟨ck j1 S0, ck j1 S1, ck j1 S2, ck j1 S3, ck j1 T0, ck j1 T1, ck j1 T2, ck j1 T3, ck j1 U0, ck j1 U1, ck j1 U2, ck j1 U3, ck j1 CC, ck j1 CD, ck j1 V6, ck j1 V8⟩ | exact ⟨ck j2 (ck j1 S0), ck j2 (ck j1 S1), ck j2 (ck j1 S2), ck j2 (ck j1 S3), ck j2 (ck j1 T0), ck j2 (ck j1 T1), ck j2 (ck j1 T2), ck j2 (ck j1 T3), ck j2 (ck j1 U0), ck j2 (ck j1 U1), ck j2 (ck j1 U2), ck j2 (ck j1 U3), ck j2 (ck j1 CC), ck j2 (ck j1 CD), ck j2 (ck j1 V6), ck j2 (ck j1 V8)⟩)
      (first
        | (go_at_call 14; (with_reducible refine GT.out.mono ?_); rintro e v1 ⟨rfl, j1⟩)
        | (go_at_call 14; (with_reducible refine (GU.out v1 j1).mono ?_); rintro e v2 ⟨rfl, j2⟩))
    go_wp2_with fail
    go_ret
    exact ⟨rfl, bf8.trans ((d8.trans ((j1.trans (j2.mono j1.size)))).mono bf8.size)⟩
end Go.Proofs.Ytghjcedhoeoiiaa.L
