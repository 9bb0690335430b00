/- FnLesses: of numbers with that many bits one is reported to be less exactly if it is (written by tools/gen/gaterg.py). -/
import Derived.Test.YtcenijdaacbgpaaGateA
import Derived.Test.YtcenijdaacbgpaaGateB
import Derived.Test.YtcenijdaacbgpaaGateS
import Derived.Test.YtcenijdaacbgpaaAddLess
import Derived.Test.YtcenijdaacbgpaaRgn
namespace Go.Proofs.Ytcenijdaacbgpaa.L
open Go.RowKit Go.Proofs.Ytcenijdaacbgpaa.S
set_option linter.unusedVariables false
set_option linter.unusedSimpArgs false

theorem shl_oneE {n : Nat} (h : n ≤ 29) : IntKind.i64.wrap ((2 : Int) ^ min n 64) = 2 ^ n ∧ IntKind.i64.wrap ((2 : Int) ^ n) = 2 ^ n ∧ IntKind.i64.wrap ((2 : Int) ^ n - 1) = 2 ^ n - 1 := by
  obtain ⟨h1, h2⟩ := pow29 h
  rw [Nat.min_eq_left (by omega), IntKind.wrap_i64, IntKind.wrap_i64]
  generalize (2 : Int) ^ n = t at *
  omega
set_option maxRecDepth 100000 in
set_option maxHeartbeats 12800000 in
theorem law_FnLesses (a : Option Addr) (len cap : Nat) (w : World) (hr : Row w.heap.size w a len) :
    Calls Try.prog 4 #[.slice a len cap] w fun e w' => e = .returned (.bool true) ∧ Below w.heap.size w w' := by
  go_enter Try.func4, Try.ntmps4
  go_wp2_with fail
  refine (drawFAdd_any a len cap w hr).mono ?_
  rintro e w1 ⟨p, q, rfl, fp, fq, be1⟩
  have hr1 : Row w1.heap.size w1 a len := row_wide2A (hr.keep be1) be1.size
  obtain ⟨a0, hx⟩ : ∃ x, x = p % 2147483647 := ⟨_, rfl⟩
  obtain ⟨b0, hy⟩ : ∃ y, y = q % 2147483647 := ⟨_, rfl⟩
  have lx : fl a0 := by unfold fl; omega
  have ly : fl b0 := by unfold fl; omega
  have FA := field_any p
  have FB := field_any q
  rw [← hx] at FA
  rw [← hy] at FB
  have HFA := Lib.hid FA
  have HFB := Lib.hid FB
  clear FA FB hx hy
  go_wp2_with fail
  refine (at_anyA a len cap 2 (by omega) w1 hr1).mono ?_; rintro e w2 ⟨q2, rfl, q20, q21, rfl⟩
  obtain ⟨k, rfl⟩ : ∃ k : Nat, q2 = k := ⟨q2.toNat, by omega⟩
  obtain ⟨n, hn⟩ : ∃ n : Nat, 1 + (k : Int) % 29 = n := ⟨1 + k % 29, by omega⟩
  have n1 : 1 ≤ n := by omega
  have n2 : n ≤ 29 := by omega
  have N1 := Lib.hid n1
  have N2 := Lib.hid n2
  obtain ⟨p1, p2⟩ := pow29 n2
  obtain ⟨x, hx⟩ : ∃ x, x = a0 % 2 ^ n := ⟨_, rfl⟩
  obtain ⟨y, hy⟩ : ∃ y, y = b0 % 2 ^ n := ⟨_, rfl⟩
  have X0 : 0 ≤ x ∧ x < 2 ^ n := by rw [hx]; exact ⟨Int.emod_nonneg _ (by omega), Int.emod_lt_of_pos _ (by omega)⟩
  have Y0 : 0 ≤ y ∧ y < 2 ^ n := by rw [hy]; exact ⟨Int.emod_nonneg _ (by omega), Int.emod_lt_of_pos _ (by omega)⟩
  have mx : bits BinOp.and IntKind.i64 a0 (2 ^ n - 1) = x := by unfold fl at lx; rw [hx]; exact mask_at (by omega) (by omega) (by omega)
  have my : bits BinOp.and IntKind.i64 b0 (2 ^ n - 1) = y := by unfold fl at ly; rw [hy]; exact mask_at (by omega) (by omega) (by omega)
  have HLX := Lib.hid (show fl x by unfold fl; omega)
  have HLY := Lib.hid (show fl y by unfold fl; omega)
  have HX0 := Lib.hid X0
  have HY0 := Lib.hid Y0
  obtain ⟨hsh, wsh, wsh1⟩ := shl_oneE n2
  clear hx hy X0 Y0 q20 q21
  go_wp2_with fail
  clear hn
  have Q2 := Lib.hid p2
  clear lx ly
  have p1' : (2 : Int) ^ n - 1 ≤ 536870911 := by omega
  go_cut [6] (fun s6 wx => s6 = .slice (some ⟨w1.heap.size, 0, none⟩) 2 2 ∧ wx = w1.drew.alloc (.cells #[.int .i64 x, .int .i64 y] 3))
  case first =>
    rename_i J K' hJ hK
    refine wp_region_drawn [6, 23, 24, 25, 26, 27, 28, 29, 30, 31, 32, 33, 34, 35] (fun d u wx => (d 12 = false → wx = w1.drew) ∧ (d 12 = true → wx = w1.drew.alloc (.cells #[.int .i64 x, .int .i64 y] 3)) ∧ (d 13 = true → d 12 = true) ∧ (d 0 = true → u 23 = .int .i64 p) ∧ (d 1 = true → u 24 = .int .i64 a0) ∧ (d 2 = true → u 25 = .int .i64 n) ∧ (d 3 = true → u 26 = .int .i64 (2 ^ n)) ∧ (d 4 = true → u 27 = .int .i64 (2 ^ n - 1)) ∧ (d 5 = true → u 28 = .int .i64 x) ∧ (d 6 = true → u 29 = .int .i64 q) ∧ (d 7 = true → u 30 = .int .i64 b0) ∧ (d 8 = true → u 31 = .int .i64 n) ∧ (d 9 = true → u 32 = .int .i64 (2 ^ n)) ∧ (d 10 = true → u 33 = .int .i64 (2 ^ n - 1)) ∧ (d 11 = true → u 34 = .int .i64 y) ∧ (d 12 = true → u 35 = .slice (some ⟨w1.heap.size, 0, none⟩) 2 2) ∧ (d 13 = true → u 6 = .slice (some ⟨w1.heap.size, 0, none⟩) 2 2)) (by kernel_rfl) (by kernel_rfl) (by kernel_rfl) ?_ ?_ ?_
    · intro u; exact ⟨fun _ => rfl, vac rfl, vac rfl, vac rfl, vac rfl, vac rfl, vac rfl, vac rfl, vac rfl, vac rfl, vac rfl, vac rfl, vac rfl, vac rfl, vac rfl, vac rfl, vac rfl⟩
    · refine ⟨?_, ?_, ?_, ?_, ?_, ?_, ?_, ?_, ?_, ?_, ?_, ?_, ?_, ?_, trivial⟩
      · intro d u wx h0 hd hF
        obtain ⟨hn, hw, hl, f0, f1, f2, f3, f4, f5, f6, f7, f8, f9, f10, f11, f12, f13⟩ := hF
        refine Wpv.env fun ρ hin hout hcon hfun => ?_
        have E3 : ρ (.tmp 3) = .int .i64 p := (hout 3 (by kernel_rfl)).trans (by kernel_rfl)
        clear hin hout
        refine Wpv.value (v := .int .i64 p) (w' := wx) ?_ ⟨hn, hw, hl, fun _ => rfl, f1, f2, f3, f4, f5, f6, f7, f8, f9, f10, f11, f12, f13⟩
        clear f0 f1 f2 f3 f4 f5 f6 f7 f8 f9 f10 f11 f12 f13 hn hw hl
        simp only [execOp]; rw [E3]; go_simp
      · intro d u wx h0 hd hF
        obtain ⟨hn, hw, hl, f0, f1, f2, f3, f4, f5, f6, f7, f8, f9, f10, f11, f12, f13⟩ := hF
        refine Wpv.env fun ρ hin hout hcon hfun => ?_
        have E23 := (hin 23 (by kernel_rfl)).trans (f0 (hd.get (j := 0) (by kernel_rfl)))
        clear hin hout
        refine Wpv.enter (f := 8) (args := #[.int .i64 p]) (w' := wx) (by clear f0 f1 f2 f3 f4 f5 f6 f7 f8 f9 f10 f11 f12 f13 hn hw hl; go_simp) (HFA.out _ fp) ?_
        rintro e' w' ⟨rfl, rfl⟩
        exact ⟨_, rfl, ⟨hn, hw, hl, f0, fun _ => rfl, f2, f3, f4, f5, f6, f7, f8, f9, f10, f11, f12, f13⟩⟩
      · intro d u wx h0 hd hF
        obtain ⟨hn, hw, hl, f0, f1, f2, f3, f4, f5, f6, f7, f8, f9, f10, f11, f12, f13⟩ := hF
        refine Wpv.env fun ρ hin hout hcon hfun => ?_
        have E5 : ρ (.tmp 5) = .int .i64 n := (hout 5 (by kernel_rfl)).trans (by kernel_rfl)
        clear hin hout
        refine Wpv.value (v := .int .i64 n) (w' := wx) ?_ ⟨hn, hw, hl, f0, f1, fun _ => rfl, f3, f4, f5, f6, f7, f8, f9, f10, f11, f12, f13⟩
        clear f0 f1 f2 f3 f4 f5 f6 f7 f8 f9 f10 f11 f12 f13 hn hw hl
        simp only [execOp]; rw [E5]; go_simp
      · intro d u wx h0 hd hF
        obtain ⟨hn, hw, hl, f0, f1, f2, f3, f4, f5, f6, f7, f8, f9, f10, f11, f12, f13⟩ := hF
        refine Wpv.env fun ρ hin hout hcon hfun => ?_
        have E25 := (hin 25 (by kernel_rfl)).trans (f2 (hd.get (j := 2) (by kernel_rfl)))
        clear hin hout
        refine Wpv.value (v := .int .i64 (2 ^ n)) (w' := wx) ?_ ⟨hn, hw, hl, f0, f1, f2, fun _ => rfl, f4, f5, f6, f7, f8, f9, f10, f11, f12, f13⟩
        clear f0 f1 f2 f3 f4 f5 f6 f7 f8 f9 f10 f11 f12 f13 hn hw hl
        go_simp
      · intro d u wx h0 hd hF
        obtain ⟨hn, hw, hl, f0, f1, f2, f3, f4, f5, f6, f7, f8, f9, f10, f11, f12, f13⟩ := hF
        refine Wpv.env fun ρ hin hout hcon hfun => ?_
        have E26 := (hin 26 (by kernel_rfl)).trans (f3 (hd.get (j := 3) (by kernel_rfl)))
        clear hin hout
        refine Wpv.value (v := .int .i64 (2 ^ n - 1)) (w' := wx) ?_ ⟨hn, hw, hl, f0, f1, f2, f3, fun _ => rfl, f5, f6, f7, f8, f9, f10, f11, f12, f13⟩
        clear f0 f1 f2 f3 f4 f5 f6 f7 f8 f9 f10 f11 f12 f13 hn hw hl
        go_simp
      · intro d u wx h0 hd hF
        obtain ⟨hn, hw, hl, f0, f1, f2, f3, f4, f5, f6, f7, f8, f9, f10, f11, f12, f13⟩ := hF
        refine Wpv.env fun ρ hin hout hcon hfun => ?_
        have E24 := (hin 24 (by kernel_rfl)).trans (f1 (hd.get (j := 1) (by kernel_rfl)))
        have E27 := (hin 27 (by kernel_rfl)).trans (f4 (hd.get (j := 4) (by kernel_rfl)))
        clear hin hout
        refine Wpv.value (v := .int .i64 x) (w' := wx) ?_ ⟨hn, hw, hl, f0, f1, f2, f3, f4, fun _ => rfl, f6, f7, f8, f9, f10, f11, f12, f13⟩
        clear f0 f1 f2 f3 f4 f5 f6 f7 f8 f9 f10 f11 f12 f13 hn hw hl
        go_simp
      · intro d u wx h0 hd hF
        obtain ⟨hn, hw, hl, f0, f1, f2, f3, f4, f5, f6, f7, f8, f9, f10, f11, f12, f13⟩ := hF
        refine Wpv.env fun ρ hin hout hcon hfun => ?_
        have E4 : ρ (.tmp 4) = .int .i64 q := (hout 4 (by kernel_rfl)).trans (by kernel_rfl)
        clear hin hout
        refine Wpv.value (v := .int .i64 q) (w' := wx) ?_ ⟨hn, hw, hl, f0, f1, f2, f3, f4, f5, fun _ => rfl, f7, f8, f9, f10, f11, f12, f13⟩
        clear f0 f1 f2 f3 f4 f5 f6 f7 f8 f9 f10 f11 f12 f13 hn hw hl
        simp only [execOp]; rw [E4]; go_simp
      · intro d u wx h0 hd hF
        obtain ⟨hn, hw, hl, f0, f1, f2, f3, f4, f5, f6, f7, f8, f9, f10, f11, f12, f13⟩ := hF
        refine Wpv.env fun ρ hin hout hcon hfun => ?_
        have E29 := (hin 29 (by kernel_rfl)).trans (f6 (hd.get (j := 6) (by kernel_rfl)))
        clear hin hout
        refine Wpv.enter (f := 8) (args := #[.int .i64 q]) (w' := wx) (by clear f0 f1 f2 f3 f4 f5 f6 f7 f8 f9 f10 f11 f12 f13 hn hw hl; go_simp) (HFB.out _ fq) ?_
        rintro e' w' ⟨rfl, rfl⟩
        exact ⟨_, rfl, ⟨hn, hw, hl, f0, f1, f2, f3, f4, f5, f6, fun _ => rfl, f8, f9, f10, f11, f12, f13⟩⟩
      · intro d u wx h0 hd hF
        obtain ⟨hn, hw, hl, f0, f1, f2, f3, f4, f5, f6, f7, f8, f9, f10, f11, f12, f13⟩ := hF
        refine Wpv.env fun ρ hin hout hcon hfun => ?_
        have E5 : ρ (.tmp 5) = .int .i64 n := (hout 5 (by kernel_rfl)).trans (by kernel_rfl)
        clear hin hout
        refine Wpv.value (v := .int .i64 n) (w' := wx) ?_ ⟨hn, hw, hl, f0, f1, f2, f3, f4, f5, f6, f7, fun _ => rfl, f9, f10, f11, f12, f13⟩
        clear f0 f1 f2 f3 f4 f5 f6 f7 f8 f9 f10 f11 f12 f13 hn hw hl
        simp only [execOp]; rw [E5]; go_simp
      · intro d u wx h0 hd hF
        obtain ⟨hn, hw, hl, f0, f1, f2, f3, f4, f5, f6, f7, f8, f9, f10, f11, f12, f13⟩ := hF
        refine Wpv.env fun ρ hin hout hcon hfun => ?_
        have E31 := (hin 31 (by kernel_rfl)).trans (f8 (hd.get (j := 8) (by kernel_rfl)))
        clear hin hout
        refine Wpv.value (v := .int .i64 (2 ^ n)) (w' := wx) ?_ ⟨hn, hw, hl, f0, f1, f2, f3, f4, f5, f6, f7, f8, fun _ => rfl, f10, f11, f12, f13⟩
        clear f0 f1 f2 f3 f4 f5 f6 f7 f8 f9 f10 f11 f12 f13 hn hw hl
        go_simp
      · intro d u wx h0 hd hF
        obtain ⟨hn, hw, hl, f0, f1, f2, f3, f4, f5, f6, f7, f8, f9, f10, f11, f12, f13⟩ := hF
        refine Wpv.env fun ρ hin hout hcon hfun => ?_
        have E32 := (hin 32 (by kernel_rfl)).trans (f9 (hd.get (j := 9) (by kernel_rfl)))
        clear hin hout
        refine Wpv.value (v := .int .i64 (2 ^ n - 1)) (w' := wx) ?_ ⟨hn, hw, hl, f0, f1, f2, f3, f4, f5, f6, f7, f8, f9, fun _ => rfl, f11, f12, f13⟩
        clear f0 f1 f2 f3 f4 f5 f6 f7 f8 f9 f10 f11 f12 f13 hn hw hl
        go_simp
      · intro d u wx h0 hd hF
        obtain ⟨hn, hw, hl, f0, f1, f2, f3, f4, f5, f6, f7, f8, f9, f10, f11, f12, f13⟩ := hF
        refine Wpv.env fun ρ hin hout hcon hfun => ?_
        have E30 := (hin 30 (by kernel_rfl)).trans (f7 (hd.get (j := 7) (by kernel_rfl)))
        have E33 := (hin 33 (by kernel_rfl)).trans (f10 (hd.get (j := 10) (by kernel_rfl)))
        clear hin hout
        refine Wpv.value (v := .int .i64 y) (w' := wx) ?_ ⟨hn, hw, hl, f0, f1, f2, f3, f4, f5, f6, f7, f8, f9, f10, fun _ => rfl, f12, f13⟩
        clear f0 f1 f2 f3 f4 f5 f6 f7 f8 f9 f10 f11 f12 f13 hn hw hl
        go_simp
      · intro d u wx h0 hd hF
        obtain ⟨hn, hw, hl, f0, f1, f2, f3, f4, f5, f6, f7, f8, f9, f10, f11, f12, f13⟩ := hF
        refine Wpv.env fun ρ hin hout hcon hfun => ?_
        have E28 := (hin 28 (by kernel_rfl)).trans (f5 (hd.get (j := 5) (by kernel_rfl)))
        have E34 := (hin 34 (by kernel_rfl)).trans (f11 (hd.get (j := 11) (by kernel_rfl)))
        clear hin hout
        have e := hn h0
        subst e
        refine Wpv.value (v := .slice (some ⟨w1.heap.size, 0, none⟩) 2 2) (w' := w1.drew.alloc (.cells #[.int .i64 x, .int .i64 y] 3)) ?_ ⟨fun h => (by simp [upd] at h), fun _ => rfl, fun _ => by simp [upd], f0, f1, f2, f3, f4, f5, f6, f7, f8, f9, f10, f11, fun _ => rfl, f13⟩
        clear f0 f1 f2 f3 f4 f5 f6 f7 f8 f9 f10 f11 f12 f13 hn hw hl
        go_simp
      · intro d u wx h0 hd hF
        obtain ⟨hn, hw, hl, f0, f1, f2, f3, f4, f5, f6, f7, f8, f9, f10, f11, f12, f13⟩ := hF
        refine Wpv.env fun ρ hin hout hcon hfun => ?_
        have E35 := (hin 35 (by kernel_rfl)).trans (f12 (hd.get (j := 12) (by kernel_rfl)))
        clear hin hout
        exact Wpv.value (v := .slice (some ⟨w1.heap.size, 0, none⟩) 2 2) (by simp only [execOp]; rw [E35]; rfl) ⟨hn, hw, fun _ => hd.get (j := 12) (by kernel_rfl), f0, f1, f2, f3, f4, f5, f6, f7, f8, f9, f10, f11, f12, fun _ => rfl⟩
    · intro d u wx hall hF
      obtain ⟨hn, hw, hl, f0, f1, f2, f3, f4, f5, f6, f7, f8, f9, f10, f11, f12, f13⟩ := hF
      have fC := And.intro (f13 (hall 13 (by decide))) (hw (hall 12 (by decide)))
      clear f0 f1 f2 f3 f4 f5 f6 f7 f8 f9 f10 f11 f12 f13 hn hw hl
      refine hK _ _ (Met.intro (hJ _ _ ?_))
      simp only [setF, List.foldl_cons, List.foldl_nil, Act.put, List.setIfInBounds_toArray, List.set_cons_zero, List.set_cons_succ]
      repeat apply Exists.intro
      exact ⟨fC, rfl⟩
  obtain ⟨rfl, hwc⟩ := hcut
  obtain ⟨w2, hw2'⟩ : ∃ x, x = wc := ⟨_, rfl⟩
  subst hw2'
  have hw2 := hwc
  clear hwc HFA HFB mx my hsh wsh wsh1 p1 p1' p2 Q2
  have e2 : Below w1.heap.size w1 w2 := by rw [hw2]; (repeat (with_reducible first | exact bR _ _ | assumption | refine bD ?_ | refine bN ?_ _ | refine bA ?_ _ | refine bS ?_ _))
  have z2 : w1.heap.size + 1 ≤ w2.heap.size := by rw [hw2]; simp
  have cx2 : w2.cell? ⟨w1.heap.size, 0, none⟩ = some (.int .i64 x) := by rw [hw2]; first | (simp; done) | go_simp
  have cy2 : w2.cell? ⟨w1.heap.size, 1, none⟩ = some (.int .i64 y) := by rw [hw2]; first | (simp; done) | go_simp
  have be2 := be1.trans (e2.mono be1.size)
  clear hw2
  go_wp2_with fail
  have fx : Fits x := by have h := HLX.out; unfold fl at h; unfold Fits; omega
  have fy : Fits y := by have h := HLY.out; unfold fl at h; unfold Fits; omega
  have ti2 := ints2 fx fy cx2 cy2 (by omega)
  refine (inputs_any w2.heap.size _ [x, y] w2 ti2 (Nat.le_refl _) (by simp)).mono ?_; rintro e w3 ⟨ur, rfl, f3, tl3⟩
  have z3 := f3.size
  have be3 := be2.trans (f3.mono be2.size)
  have cx := ck f3 cx2
  have cy := ck f3 cy2
  have tl : LinS false 0 w3.heap.size w3 ur [v1, v2] := tl3
  obtain ⟨al, kl, rfl, ll, lb⟩ := tl.shape
  obtain ⟨rb, ro, ua, ea, -, lrb, ca, ta⟩ := tl.at (j := 0) (by simp)
  subst ea
  obtain ⟨rb2, ro2, ub, eb, -, -, cb, tb⟩ := tl.at (j := 1) (by simp)
  simp only [Option.some.injEq, Addr.mk.injEq, and_true] at eb
  obtain ⟨rfl, rfl⟩ := eb
  obtain ⟨xa, ka, rfl, -, -⟩ := ta.shape
  obtain ⟨xb, kb, rfl, -, -⟩ := tb.shape
  rw [Nat.add_zero] at ca
  have ta' : Terms false 0 w3.heap.size w3 (.slice xa 1 ka) v1 := ta
  have ca' : w3.cell? ⟨rb, ro, none⟩ = some (.slice xa 1 ka) := ca
  have tb' : Terms false 0 w3.heap.size w3 (.slice xb 1 kb) v2 := tb
  have cb' : w3.cell? ⟨rb, ro + 1, none⟩ = some (.slice xb 1 kb) := cb
  clear cx2 cy2 ti2 ca ta cb tb tl tl3 ll lb
  go_wp2_with fail
  refine name_wp fun w4 hw4 => ?_
  have e4 : Below w3.heap.size w3 w4 := by rw [hw4]; (repeat (with_reducible first | exact bR _ _ | assumption | refine bD ?_ | refine bN ?_ _ | refine bA ?_ _ | refine bS ?_ _))
  have z4 : w3.heap.size + 1 ≤ w4.heap.size := by rw [hw4]; simp
  have s0 : w4.cell? ⟨w3.heap.size, 0, none⟩ = some (.int .i64 2) := by rw [hw4]; first | (simp; done) | go_simp
  have s1 : w4.cell? ⟨w3.heap.size, 1, none⟩ = some (.slice none 0 0) := by rw [hw4]; first | (simp; done) | go_simp
  have s2 : w4.cell? ⟨w3.heap.size, 2, none⟩ = some (.slice none 0 0) := by rw [hw4]; first | (simp; done) | go_simp
  have s3 : w4.cell? ⟨w3.heap.size, 3, none⟩ = some (.slice none 0 0) := by rw [hw4]; first | (simp; done) | go_simp
  have be4 := be3.trans (e4.mono be3.size)
  have d4 : Below w4.heap.size w4 w4.drew := (Below.refl _ _).drew
  have e4d : Below w3.heap.size w3 w4.drew := e4.trans (d4.mono (by omega))
  have zd4 : w4.drew.heap.size = w4.heap.size := rfl
  have F1 : Fits 2 := by unfold Fits; omega
  have s0_1 := cell_keep d4 s0
  have s1_1 := cell_keep d4 s1
  have s2_1 := cell_keep d4 s2
  have s3_1 := cell_keep d4 s3
  clear s0 s1 s2 s3
  have cx_1 := cell_keep e4d cx
  have cy_1 := cell_keep e4d cy
  have ca'_1 := cell_keep e4d ca'
  have cb'_1 := cell_keep e4d cb'
  have ta'_1 := ta'.keep e4d (by omega)
  have tb'_1 := tb'.keep e4d (by omega)
  clear cx cy ca' cb' ta' tb'
  clear hw4
  have n2 := N2.out
  have n1 := N1.out
  obtain ⟨tS, htS⟩ : ∃ t, t = tLess n := ⟨_, rfl⟩
  obtain ⟨zS, hzS⟩ : ∃ t, t = zLess n := ⟨_, rfl⟩
  have hIs := tLess_is n2
  rw [← htS] at hIs
  obtain ⟨hMay, hOk, hSys, hZ⟩ : mayL (sysI 2) [v1, v2] = true ∧ bOk (lessB (sysI 2) ⟨[], [], 0⟩ v1 v2 n) = true ∧ sysOk tS = true ∧ linW (varsN tS) zS = true := by
    have hf := lessFacts_of n2
    unfold lessFacts at hf
    simp only [Bool.and_eq_true] at hf
    rw [htS, hzS]
    exact ⟨hf.1.1.1.1.1.1.1.1.1.1, hf.1.1.1.1.1.1.1.1.1.2, hf.1.1.1.1.1.1.1.1.2, hf.1.1.1.1.1.2⟩
  have hI1 : tS.ins = 2 := by rw [hIs]
  have hI2 : tS.outs = [] := by rw [hIs]
  have hI3 : tS.hints.length ≤ 1000 := by rw [hIs]; simp [bitHs]; omega
  have hI4 : tS.cons.length ≤ 1000 := by rw [hIs]; simp [bitCs]; omega
  have hm : true = (decide (1 ≤ (n : Int) ∧ (n : Int) ≤ 29) && mayL (sysI 2) [v1, v2]) := by rw [hMay, decide_eq_true (by omega)]; rfl
  have Ho : Hid (true = (true && bOk (lessB (sysI 2) ⟨[], [], 0⟩ v1 v2 n))) := Lib.hid (by rw [hOk]; rfl)
  have Hr : Hid (tS = if true = true then bSys (sysI 2) (lessB (sysI 2) ⟨[], [], 0⟩ v1 v2 n) else sys0) := Lib.hid (by rw [if_pos rfl, htS]; rfl)
  have Hv : Hid (zS = if (true && bOk (lessB (sysI 2) ⟨[], [], 0⟩ v1 v2 n)) = true then lessBZ (sysI 2) ⟨[], [], 0⟩ v1 v2 n else []) := Lib.hid (by rw [hOk, hzS]; rfl)
  obtain ⟨eSol, bSol⟩ := solB_less HLX.out HLY.out n2 HX0.out.2 HY0.out.2
  have tSol := told_less HLX.out HLY.out n2 HX0.out.2 HY0.out.2
  rw [← htS] at bSol
  rw [← htS, ← hzS] at tSol
  have HM := Lib.hid hm
  have HS := Lib.hid hSys
  have HZ := Lib.hid hZ
  have HI1 := Lib.hid hI1
  have HI2 := Lib.hid hI2
  have HI3 := Lib.hid hI3
  have HI4 := Lib.hid hI4
  have HB := Lib.hid bSol
  obtain ⟨Y, hY⟩ : ∃ Y : Int, (if x < y then 1 else 0) = Y := ⟨_, rfl⟩
  rw [hY] at tSol
  have HT := Lib.hid tSol
  have HY := Lib.hid hY
  clear htS hzS hIs hMay hOk hSys hZ hI1 hI2 hI3 hI4 hm eSol bSol tSol hY n1 n2
  go_cut [9, 10, 11] (fun s9 s10 s11 wx => CutSL w4.drew tS zS true s9 s10 s11 wx)
  case first =>
    rename_i J K' hJ hK
    refine wp_region_drawn [9, 10, 11, 41, 42, 43, 44, 45, 46, 47, 48, 49, 50, 51, 52, 53] (fun d u wx => Below w4.drew.heap.size w4.drew wx ∧ (d 0 = true → u 42 = .agg #[.int .i64 2, .slice none 0 0, .slice none 0 0, .slice none 0 0]) ∧ (d 1 = true → u 43 = .slice (some ⟨rb, ro, none⟩) 2 kl) ∧ (d 2 = true → u 44 = .pointer (some ⟨rb, ro, none⟩)) ∧ (d 3 = true → u 45 = .agg #[.slice xa 1 ka]) ∧ (d 4 = true → u 46 = .slice (some ⟨rb, ro, none⟩) 2 kl) ∧ (d 5 = true → u 47 = .pointer (some ⟨rb, ro + 1, none⟩)) ∧ (d 6 = true → u 48 = .agg #[.slice xb 1 kb]) ∧ (d 7 = true → u 49 = .int .i64 n) ∧ ResSL w4.drew tS zS true (d 8) (d 9) (d 10) (d 11) (d 12) (d 13) (d 14) (d 15) (d 16) (d 17) (u 50) (u 41) (u 51) (u 52) (u 53) (u 9) (u 10) (u 11) wx) (by kernel_rfl) (by kernel_rfl) (by kernel_rfl) ?_ ?_ ?_
    · intro u; exact ⟨Below.refl _ _, vac rfl, vac rfl, vac rfl, vac rfl, vac rfl, vac rfl, vac rfl, vac rfl, ResSL.start⟩
    · refine ⟨?_, ?_, ?_, ?_, ?_, ?_, ?_, ?_, ?_, ?_, ?_, ?_, ?_, ?_, ?_, ?_, ?_, ?_, trivial⟩
      · intro d u wx h0 hd hF
        obtain ⟨hb, f0, f1, f2, f3, f4, f5, f6, f7, fR⟩ := hF
        have sz := hb.size
        refine Wpv.env fun ρ hin hout hcon hfun => ?_
        have E2 : ρ (.tmp 7) = .pointer (some ⟨w3.heap.size, 0, none⟩) := (hout 7 (by kernel_rfl)).trans (by kernel_rfl)
        clear hin hout
        have c0 := cell_keep hb s0_1
        have c1 := cell_keep hb s1_1
        have c2 := cell_keep hb s2_1
        have c3 := cell_keep hb s3_1
        refine Wpv.value (v := .agg #[.int .i64 2, .slice none 0 0, .slice none 0 0, .slice none 0 0]) (w' := wx) ?_ ⟨hb, fun _ => rfl, f1, f2, f3, f4, f5, f6, f7, fR⟩
        clear f0 f1 f2 f3 f4 f5 f6 f7 fR
        simp only [execOp]; rw [E2]; go_simp
      · intro d u wx h0 hd hF
        obtain ⟨hb, f0, f1, f2, f3, f4, f5, f6, f7, fR⟩ := hF
        have sz := hb.size
        refine Wpv.env fun ρ hin hout hcon hfun => ?_
        have E2 : ρ (.tmp 8) = .slice (some ⟨rb, ro, none⟩) 2 kl := (hout 8 (by kernel_rfl)).trans (by kernel_rfl)
        clear hin hout
        exact Wpv.value (v := .slice (some ⟨rb, ro, none⟩) 2 kl) (by simp only [execOp]; rw [E2]; rfl) ⟨hb, f0, fun _ => rfl, f2, f3, f4, f5, f6, f7, fR⟩
      · intro d u wx h0 hd hF
        obtain ⟨hb, f0, f1, f2, f3, f4, f5, f6, f7, fR⟩ := hF
        have sz := hb.size
        refine Wpv.env fun ρ hin hout hcon hfun => ?_
        have E2 := (hin 43 (by kernel_rfl)).trans (f1 (hd.get (j := 1) (by kernel_rfl)))
        clear hin hout
        refine Wpv.value (v := .pointer (some ⟨rb, ro, none⟩)) (w' := wx) ?_ ⟨hb, f0, f1, fun _ => rfl, f3, f4, f5, f6, f7, fR⟩
        clear f0 f1 f2 f3 f4 f5 f6 f7 fR
        go_simp
      · intro d u wx h0 hd hF
        obtain ⟨hb, f0, f1, f2, f3, f4, f5, f6, f7, fR⟩ := hF
        have sz := hb.size
        refine Wpv.env fun ρ hin hout hcon hfun => ?_
        have E2 := (hin 44 (by kernel_rfl)).trans (f2 (hd.get (j := 2) (by kernel_rfl)))
        clear hin hout
        have c0 := cell_keep hb ca'_1
        refine Wpv.value (v := .agg #[.slice xa 1 ka]) (w' := wx) ?_ ⟨hb, f0, f1, f2, fun _ => rfl, f4, f5, f6, f7, fR⟩
        clear f0 f1 f2 f3 f4 f5 f6 f7 fR
        go_simp
      · intro d u wx h0 hd hF
        obtain ⟨hb, f0, f1, f2, f3, f4, f5, f6, f7, fR⟩ := hF
        have sz := hb.size
        refine Wpv.env fun ρ hin hout hcon hfun => ?_
        have E2 : ρ (.tmp 8) = .slice (some ⟨rb, ro, none⟩) 2 kl := (hout 8 (by kernel_rfl)).trans (by kernel_rfl)
        clear hin hout
        exact Wpv.value (v := .slice (some ⟨rb, ro, none⟩) 2 kl) (by simp only [execOp]; rw [E2]; rfl) ⟨hb, f0, f1, f2, f3, fun _ => rfl, f5, f6, f7, fR⟩
      · intro d u wx h0 hd hF
        obtain ⟨hb, f0, f1, f2, f3, f4, f5, f6, f7, fR⟩ := hF
        have sz := hb.size
        refine Wpv.env fun ρ hin hout hcon hfun => ?_
        have E2 := (hin 46 (by kernel_rfl)).trans (f4 (hd.get (j := 4) (by kernel_rfl)))
        clear hin hout
        refine Wpv.value (v := .pointer (some ⟨rb, ro + 1, none⟩)) (w' := wx) ?_ ⟨hb, f0, f1, f2, f3, f4, fun _ => rfl, f6, f7, fR⟩
        clear f0 f1 f2 f3 f4 f5 f6 f7 fR
        go_simp
      · intro d u wx h0 hd hF
        obtain ⟨hb, f0, f1, f2, f3, f4, f5, f6, f7, fR⟩ := hF
        have sz := hb.size
        refine Wpv.env fun ρ hin hout hcon hfun => ?_
        have E2 := (hin 47 (by kernel_rfl)).trans (f5 (hd.get (j := 5) (by kernel_rfl)))
        clear hin hout
        have c0 := cell_keep hb cb'_1
        refine Wpv.value (v := .agg #[.slice xb 1 kb]) (w' := wx) ?_ ⟨hb, f0, f1, f2, f3, f4, f5, fun _ => rfl, f7, fR⟩
        clear f0 f1 f2 f3 f4 f5 f6 f7 fR
        go_simp
      · intro d u wx h0 hd hF
        obtain ⟨hb, f0, f1, f2, f3, f4, f5, f6, f7, fR⟩ := hF
        have sz := hb.size
        refine Wpv.env fun ρ hin hout hcon hfun => ?_
        have E2 : ρ (.tmp 5) = .int .i64 n := (hout 5 (by kernel_rfl)).trans (by kernel_rfl)
        clear hin hout
        exact Wpv.value (v := .int .i64 n) (by simp only [execOp]; rw [E2]; rfl) ⟨hb, f0, f1, f2, f3, f4, f5, f6, fun _ => rfl, fR⟩
      · intro d u wx h0 hd hF
        obtain ⟨hb, f0, f1, f2, f3, f4, f5, f6, f7, fR⟩ := hF
        have sz := hb.size
        refine Wpv.env fun ρ hin hout hcon hfun => ?_
        have A0 := (hin 42 (by kernel_rfl)).trans (f0 (hd.get (j := 0) (by kernel_rfl)))
        have A1 := (hin 45 (by kernel_rfl)).trans (f3 (hd.get (j := 3) (by kernel_rfl)))
        have A2 := (hin 48 (by kernel_rfl)).trans (f6 (hd.get (j := 6) (by kernel_rfl)))
        have A3 := (hin 49 (by kernel_rfl)).trans (f7 (hd.get (j := 7) (by kernel_rfl)))
        clear hin hout
        rw [h0] at fR
        refine Wpv.enter (f := 16) (args := #[.agg #[.int .i64 2, .slice none 0 0, .slice none 0 0, .slice none 0 0], .agg #[.slice xa 1 ka], .agg #[.slice xb 1 kb], .int .i64 n]) (w' := wx) (by clear f0 f1 f2 f3 f4 f5 f6 f7 fR; go_simp) (addLess_impl false 0 0 _ _ _ _ (sysI 2) false 0 w3.heap.size _ v1 false 0 w3.heap.size _ v2 n wx (sysI_R 2 F1 wx) (Nat.zero_le _) (sysI_small 2) (ta'_1.keep hb (by omega)) (by omega) (tb'_1.keep hb (by omega)) (by omega) (by simp [v1]) (by simp [v2]) n (fun _ => ⟨rfl, N2.out⟩) true HM.out true tS zS Ho Hr Hv) ?_
        intro e' w' hq
        obtain ⟨uu, hu, j1, hr⟩ := ResSL.main fR hb hq
        exact ⟨uu, hu, ⟨hb.trans (j1.mono sz), f0, f1, f2, f3, f4, f5, f6, f7, hr⟩⟩
      · intro d u wx h0 hd hF
        obtain ⟨hb, f0, f1, f2, f3, f4, f5, f6, f7, fR⟩ := hF
        have sz := hb.size
        refine Wpv.env fun ρ hin hout hcon hfun => ?_
        have E1 := hin 50 (by kernel_rfl)
        clear hin hout
        exact Wpv.value (v := u 50) (by simp only [execOp]; rw [E1]; rfl) ⟨hb, f0, f1, f2, f3, f4, f5, f6, f7, (ResSL.moveD (hd.get (j := 8) (by kernel_rfl)) fR)⟩
      · intro d u wx h0 hd hF
        obtain ⟨hb, f0, f1, f2, f3, f4, f5, f6, f7, fR⟩ := hF
        have sz := hb.size
        refine Wpv.env fun ρ hin hout hcon hfun => ?_
        have E1 := hin 41 (by kernel_rfl)
        clear hin hout
        have hm : d 9 = true := hd.get (j := 9) (by kernel_rfl)
        obtain ⟨x, y, b, e⟩ := ResSL.tupD hm fR
        have e1 := E1.trans e
        refine Wpv.value (v := x) (w' := wx) (by clear e E1 f0 f1 f2 f3 f4 f5 f6 f7 fR; go_simp) ⟨hb, f0, f1, f2, f3, f4, f5, f6, f7, (ResSL.ex0D hm e fR)⟩
      · intro d u wx h0 hd hF
        obtain ⟨hb, f0, f1, f2, f3, f4, f5, f6, f7, fR⟩ := hF
        have sz := hb.size
        refine Wpv.env fun ρ hin hout hcon hfun => ?_
        have E1 := hin 41 (by kernel_rfl)
        clear hin hout
        have hm : d 9 = true := hd.get (j := 9) (by kernel_rfl)
        obtain ⟨x, y, b, e⟩ := ResSL.tupD hm fR
        have e1 := E1.trans e
        refine Wpv.value (v := y) (w' := wx) (by clear e E1 f0 f1 f2 f3 f4 f5 f6 f7 fR; go_simp) ⟨hb, f0, f1, f2, f3, f4, f5, f6, f7, (ResSL.ex1D hm e fR)⟩
      · intro d u wx h0 hd hF
        obtain ⟨hb, f0, f1, f2, f3, f4, f5, f6, f7, fR⟩ := hF
        have sz := hb.size
        refine Wpv.env fun ρ hin hout hcon hfun => ?_
        have E1 := hin 41 (by kernel_rfl)
        clear hin hout
        have hm : d 9 = true := hd.get (j := 9) (by kernel_rfl)
        obtain ⟨x, y, b, e⟩ := ResSL.tupD hm fR
        have e1 := E1.trans e
        refine Wpv.value (v := b) (w' := wx) (by clear e E1 f0 f1 f2 f3 f4 f5 f6 f7 fR; go_simp) ⟨hb, f0, f1, f2, f3, f4, f5, f6, f7, (ResSL.ex2D hm e fR)⟩
      · intro d u wx h0 hd hF
        obtain ⟨hb, f0, f1, f2, f3, f4, f5, f6, f7, fR⟩ := hF
        have sz := hb.size
        refine Wpv.env fun ρ hin hout hcon hfun => ?_
        clear hin hout
        rw [h0] at fR
        have j1 : Below wx.heap.size wx (wx.alloc (.cells #[.int .i64 0, .slice none 0 0, .slice none 0 0, .slice none 0 0] 32)) := balloc (Nat.le_refl _) (Below.refl _ _) _
        refine Wpv.value (v := .pointer (some ⟨wx.heap.size, 0, none⟩)) (w' := wx.alloc (.cells #[.int .i64 0, .slice none 0 0, .slice none 0 0, .slice none 0 0] 32)) (by clear f0 f1 f2 f3 f4 f5 f6 f7 fR; go_simp) ⟨hb.trans (j1.mono sz), f0, f1, f2, f3, f4, f5, f6, f7, fR.boxA hb⟩
      · intro d u wx h0 hd hF
        obtain ⟨hb, f0, f1, f2, f3, f4, f5, f6, f7, fR⟩ := hF
        have sz := hb.size
        refine Wpv.env fun ρ hin hout hcon hfun => ?_
        clear hin hout
        rw [h0] at fR
        have j1 : Below wx.heap.size wx (wx.alloc (.cells #[.slice none 0 0] 39)) := balloc (Nat.le_refl _) (Below.refl _ _) _
        refine Wpv.value (v := .pointer (some ⟨wx.heap.size, 0, none⟩)) (w' := wx.alloc (.cells #[.slice none 0 0] 39)) (by clear f0 f1 f2 f3 f4 f5 f6 f7 fR; go_simp) ⟨hb.trans (j1.mono sz), f0, f1, f2, f3, f4, f5, f6, f7, fR.boxB hb⟩
      · intro d u wx h0 hd hF
        obtain ⟨hb, f0, f1, f2, f3, f4, f5, f6, f7, fR⟩ := hF
        have sz := hb.size
        refine Wpv.env fun ρ hin hout hcon hfun => ?_
        have Ea := hin 9 (by kernel_rfl)
        have Eb := hin 51 (by kernel_rfl)
        clear hin hout
        obtain ⟨gg, n0, a1, n1, k1, a2, n2, k2, a3, n3, k3, z0, z1, z2, z3, e1, e2, fr, bx⟩ := ResSL.preAD (hd.get (j := 10) (by kernel_rfl)) (hd.get (j := 13) (by kernel_rfl)) fR
        obtain ⟨c0, c1, c2, c3⟩ := id bx
        obtain ⟨r0, r1, r2, r3⟩ := id fr
        obtain ⟨lg, fR'⟩ := ResSL.setAD (hd.get (j := 10) (by kernel_rfl)) (hd.get (j := 13) (by kernel_rfl)) e1 e2 fR
        have y1 := Ea.trans e1
        have y2 := Eb.trans e2
        refine Wpv.skip (w' := set4 wx gg (.int .i64 n0) (.slice a1 n1 k1) (.slice a2 n2 k2) (.slice a3 n3 k3)) (by unfold set4; clear fR' e1 e2 Ea Eb bx fr f0 f1 f2 f3 f4 f5 f6 f7 fR; go_simp) ?_
        exact ⟨set4_below hb lg _ _ _ _, f0, f1, f2, f3, f4, f5, f6, f7, fR'⟩
      · intro d u wx h0 hd hF
        obtain ⟨hb, f0, f1, f2, f3, f4, f5, f6, f7, fR⟩ := hF
        have sz := hb.size
        refine Wpv.env fun ρ hin hout hcon hfun => ?_
        have Ea := hin 10 (by kernel_rfl)
        have Eb := hin 52 (by kernel_rfl)
        clear hin hout
        obtain ⟨gg, a1, n1, k1, z0, e1, e2, r0, c0⟩ := ResSL.preBD (hd.get (j := 11) (by kernel_rfl)) (hd.get (j := 14) (by kernel_rfl)) fR
        obtain ⟨lg, fR'⟩ := ResSL.setBD (hd.get (j := 11) (by kernel_rfl)) (hd.get (j := 14) (by kernel_rfl)) e1 e2 fR
        have y1 := Ea.trans e1
        have y2 := Eb.trans e2
        refine Wpv.skip (w' := wx.setCell ⟨gg, 0, none⟩ (.slice a1 n1 k1)) (by clear fR' e1 e2 Ea Eb f0 f1 f2 f3 f4 f5 f6 f7 fR; go_simp) ?_
        exact ⟨bset lg hb _, f0, f1, f2, f3, f4, f5, f6, f7, fR'⟩
      · intro d u wx h0 hd hF
        obtain ⟨hb, f0, f1, f2, f3, f4, f5, f6, f7, fR⟩ := hF
        have sz := hb.size
        refine Wpv.env fun ρ hin hout hcon hfun => ?_
        have E1 := hin 53 (by kernel_rfl)
        clear hin hout
        exact Wpv.value (v := u 53) (by simp only [execOp]; rw [E1]; rfl) ⟨hb, f0, f1, f2, f3, f4, f5, f6, f7, (ResSL.finD (hd.get (j := 12) (by kernel_rfl)) fR)⟩
    · intro d u wx hall hF
      obtain ⟨hb, f0, f1, f2, f3, f4, f5, f6, f7, fR⟩ := hF
      have fC := ResSL.cutD fR hb (hall 8 (by decide)) (hall 13 (by decide)) (hall 14 (by decide)) (hall 15 (by decide)) (hall 16 (by decide)) (hall 17 (by decide))
      clear f0 f1 f2 f3 f4 f5 f6 f7 fR
      refine hK _ _ (Met.intro (hJ _ _ ?_))
      simp only [setF, List.foldl_cons, List.foldl_nil, Act.put, List.setIfInBounds_toArray, List.set_cons_zero, List.set_cons_succ]
      repeat apply Exists.intro
      exact ⟨fC, rfl⟩
  obtain ⟨gT, kT, uiT, uoT, uhT, ucT, uvT, rfl, rfl, rfl, hgT, hkT, ⟨b0T, b1T, b2T, b3T⟩, bzT, tT, tzT, BT⟩ := hcut
  obtain ⟨aoT, koT, ahT, khT, acT, kcT, rfl, rfl, rfl, rfl, -⟩ := id tT.shape
  obtain ⟨azT, kzT, rfl, -, -⟩ := id tzT.shape
  obtain ⟨w5, hw5⟩ : ∃ x, x = wc := ⟨_, rfl⟩
  subst hw5
  have z5 := BT.size
  have be5 : Below w.heap.size w w5 := be4.trans ((d4.trans BT).mono be4.size)
  have s0_2 := cell_keep BT s0_1
  have s1_2 := cell_keep BT s1_1
  have s2_2 := cell_keep BT s2_1
  have s3_2 := cell_keep BT s3_1
  have cx_2 := cell_keep BT cx_1
  have cy_2 := cell_keep BT cy_1
  have ca_2 := cell_keep BT ca'_1
  have cb_2 := cell_keep BT cb'_1
  have ta_2 := ta'_1.keep BT (by omega)
  have tb_2 := tb'_1.keep BT (by omega)
  clear s0_1 s1_1 s2_1 s3_1 cx_1 cy_1 ca'_1 cb'_1 ta'_1 tb'_1
  clear Ho Hr Hv
  have lgT : gT < w5.heap.size := World.block_lt_of_cell? _ _ b0T
  have lkT : kT < w5.heap.size := World.block_lt_of_cell? _ _ bzT
  go_wp2_with fail
  refine name_call fun y6 hy6 => ?_
  have ey6 : Below w5.heap.size w5 y6 := by rw [hy6]; (repeat (with_reducible first | exact bR _ _ | assumption | refine bD ?_ | refine bN ?_ _ | refine bA ?_ _ | refine bS ?_ _))
  have zy6 : w5.heap.size + 1 ≤ y6.heap.size := by rw [hy6]; simp
  have cr6 : y6.cell? ⟨w5.heap.size, 0, none⟩ = some (.slice azT zS.length kzT) := by rw [hy6]; first | (simp; done) | go_simp
  clear hy6
  have by6 := be5.trans (ey6.mono be5.size)
  have s0_3 := cell_keep ey6 s0_2
  have s1_3 := cell_keep ey6 s1_2
  have s2_3 := cell_keep ey6 s2_2
  have s3_3 := cell_keep ey6 s3_2
  have cx_3 := cell_keep ey6 cx_2
  have cy_3 := cell_keep ey6 cy_2
  have ca_3 := cell_keep ey6 ca_2
  have cb_3 := cell_keep ey6 cb_2
  have b0T_3 := cell_keep ey6 b0T
  have b1T_3 := cell_keep ey6 b1T
  have b2T_3 := cell_keep ey6 b2T
  have b3T_3 := cell_keep ey6 b3T
  have ta_3 := ta_2.keep ey6 (by omega)
  have tb_3 := tb_2.keep ey6 (by omega)
  have tT_3 := tT.keep ey6 (by omega)
  have tzT_3 := tzT.keep ey6 (by omega)
  clear s0_2 s1_2 s2_2 s3_2 cx_2 cy_2 ca_2 cb_2 b0T b1T b2T b3T ta_2 tb_2 tT tzT
  have tx6 := ints2 fx fy cx_3 cy_3 (by omega)
  have tl6 := lin1A tzT_3 (by omega) cr6 (by omega)
  refine (told_any false 0 w5.heap.size _ _ _ _ tS y6.heap.size _ [x, y] false 0 y6.heap.size _ [zS] y6 tT_3 (by omega) tx6 (Nat.le_refl _) tl6 (Nat.le_refl _) (by simp) (by have := HI3.out; omega) (by rw [HI2.out]; simp) (by have := HI4.out; omega) (by simp) (fun _ z hz => by rw [List.mem_singleton] at hz; rw [hz]; exact HZ.out) true HB.out _ HT.out).mono ?_; rintro e w6 ⟨u6, rfl, f6, n6⟩
  clear tx6 tl6 cr6
  have zf6 := f6.size
  have bf6 := by6.trans (f6.mono by6.size)
  have s0_4 := cell_keep f6 s0_3
  have s1_4 := cell_keep f6 s1_3
  have s2_4 := cell_keep f6 s2_3
  have s3_4 := cell_keep f6 s3_3
  have cx_4 := cell_keep f6 cx_3
  have cy_4 := cell_keep f6 cy_3
  have ca_4 := cell_keep f6 ca_3
  have cb_4 := cell_keep f6 cb_3
  have b0T_4 := cell_keep f6 b0T_3
  have b1T_4 := cell_keep f6 b1T_3
  have b2T_4 := cell_keep f6 b2T_3
  have b3T_4 := cell_keep f6 b3T_3
  have ta_4 := ta_3.keep f6 (by omega)
  have tb_4 := tb_3.keep f6 (by omega)
  have tT_4 := tT_3.keep f6 (by omega)
  have tzT_4 := tzT_3.keep f6 (by omega)
  clear s0_3 s1_3 s2_3 s3_3 cx_3 cy_3 ca_3 cb_3 b0T_3 b1T_3 b2T_3 b3T_3 ta_3 tb_3 tT_3 tzT_3
  obtain ⟨r6, q6, rfl, -, -⟩ := n6.shape
  obtain ⟨rb6, ro6, vv6, rfl, cv6, ev6, -⟩ := n6.at (k := 0) (by simp)
  simp only [List.getElem?_cons_zero, Option.some.injEq] at ev6
  subst ev6
  rw [Nat.add_zero] at cv6
  clear n6
  have d6 : Below w6.heap.size w6 w6.drew := (Below.refl _ _).drew
  have zd6 : w6.drew.heap.size = w6.heap.size := rfl
  have tT := tT_4
  have S0 : w6.drew.cell? ⟨w3.heap.size, 0, none⟩ = some (.int .i64 2) := cell_keep d6 s0_4
  have S1 : w6.drew.cell? ⟨w3.heap.size, 1, none⟩ = some (.slice none 0 0) := cell_keep d6 s1_4
  have S2 : w6.drew.cell? ⟨w3.heap.size, 2, none⟩ = some (.slice none 0 0) := cell_keep d6 s2_4
  have S3 : w6.drew.cell? ⟨w3.heap.size, 3, none⟩ = some (.slice none 0 0) := cell_keep d6 s3_4
  have T0 : w6.drew.cell? ⟨gT, 0, none⟩ = some (.int .i64 tS.ins) := cell_keep d6 b0T_4
  have T1 : w6.drew.cell? ⟨gT, 1, none⟩ = some (.slice aoT tS.outs.length koT) := cell_keep d6 b1T_4
  have T2 : w6.drew.cell? ⟨gT, 2, none⟩ = some (.slice ahT tS.hints.length khT) := cell_keep d6 b2T_4
  have T3 : w6.drew.cell? ⟨gT, 3, none⟩ = some (.slice acT tS.cons.length kcT) := cell_keep d6 b3T_4
  have CX : w6.drew.cell? ⟨w1.heap.size, 0, none⟩ = some (.int .i64 x) := cell_keep d6 cx_4
  have CY : w6.drew.cell? ⟨w1.heap.size, 1, none⟩ = some (.int .i64 y) := cell_keep d6 cy_4
  have V6 : w6.drew.cell? ⟨rb6, ro6, none⟩ = some (.int .i64 Y) := cell_keep d6 cv6
  have TT := tT.keep d6 (by omega)
  have GT := Lib.hid (grown_yes 0 _ _ _ _ w5.heap.size _ _ _ _ (sysI 2) tS w6.drew (sysI_R 2 F1 _) (Nat.zero_le _) TT (by omega) sysI2_sys HS.out HI1.out HI2.out (H := tS.hints) rfl (C := tS.cons) rfl)
  have lS : w3.heap.size < w6.drew.heap.size := World.block_lt_of_cell? _ _ S0
  have lT : gT < w6.drew.heap.size := World.block_lt_of_cell? _ _ T0
  clear TT s0_4 s1_4 s2_4 s3_4 b0T_4 b1T_4 b2T_4 b3T_4 cx_4 cy_4 cv6
  obtain ⟨B, hB⟩ : ∃ B, decide (x < y) = B := ⟨_, rfl⟩
  have hY := HY.out
  have hY1 : (Y == 1) = B := by rw [← hY, ← hB]; by_cases q : x < y <;> simp [q]
  have hY2 : Y ≤ 1 := by rw [← hY]; split <;> omega
  have hY3 : decide (Y ≤ 1) = true := decide_eq_true hY2
  have bb : (B == B) = true := by simp
  clear hY
  go_wp2_with fail
  go_region_held3 (fun w' => w'.cell? ⟨w3.heap.size, 0, none⟩ = some (.int .i64 2) ∧ w'.cell? ⟨w3.heap.size, 1, none⟩ = some (.slice none 0 0) ∧ w'.cell? ⟨w3.heap.size, 2, none⟩ = some (.slice none 0 0) ∧ w'.cell? ⟨w3.heap.size, 3, none⟩ = some (.slice none 0 0) ∧ w'.cell? ⟨gT, 0, none⟩ = some (.int .i64 tS.ins) ∧ w'.cell? ⟨gT, 1, none⟩ = some (.slice aoT tS.outs.length koT) ∧ w'.cell? ⟨gT, 2, none⟩ = some (.slice ahT tS.hints.length khT) ∧ w'.cell? ⟨gT, 3, none⟩ = some (.slice acT tS.cons.length kcT) ∧ w'.cell? ⟨w1.heap.size, 0, none⟩ = some (.int .i64 x) ∧ w'.cell? ⟨w1.heap.size, 1, none⟩ = some (.int .i64 y) ∧ w'.cell? ⟨rb6, ro6, none⟩ = some (.int .i64 Y)) (first | exact ⟨S0, S1, S2, S3, T0, T1, T2, T3, CX, CY, V6⟩ | exact ⟨ck j1 S0, ck j1 S1, ck j1 S2, ck j1 S3, ck j1 T0, ck j1 T1, ck j1 T2, ck j1 T3, ck j1 CX, ck j1 CY, ck j1 V6⟩)
    (first | (go_at_call 11; (with_reducible refine GT.out.mono ?_); rintro e v1 ⟨rfl, j1⟩))
  go_wp2_with fail
  go_ret
  exact ⟨rfl, bf6.trans ((d6.trans j1).mono bf6.size)⟩
end Go.Proofs.Ytcenijdaacbgpaa.L
