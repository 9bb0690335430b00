/- Steps of the mix on numbers: the program's, through the interface. -/
import Derived.Test.YtldeckiflghpcaaMix1
import Derived.Test.YtldeckiflghpcaaDr
namespace Go.Proofs.Ytldeckiflghpcaa.L
open Go.RowKit Go.Proofs.Ytldeckiflghpcaa.S
set_option linter.unusedVariables false
set_option linter.unusedSimpArgs false

theorem inv_constant (w : World) : Sem.run Try.prog (method 185 48 (.agg #[]) "loop.example/g00543/impl.constant") w = .ok (70, .agg #[]) w := by kernel_rfl
theorem inv_sum (w : World) : Sem.run Try.prog (method 185 48 (.agg #[]) "loop.example/g00543/impl.sum") w = .ok (71, .agg #[]) w := by kernel_rfl
theorem inv_xor (w : World) : Sem.run Try.prog (method 185 48 (.agg #[]) "loop.example/g00543/impl.xor") w = .ok (72, .agg #[]) w := by kernel_rfl
theorem inv_rotated (w : World) : Sem.run Try.prog (method 185 48 (.agg #[]) "loop.example/g00543/impl.rotated") w = .ok (33, .agg #[]) w := by kernel_rfl

theorem nil_rotated (w : World) : Sem.run Try.prog (nilAhead 185 48 (.agg #[]) "loop.example/g00543/impl.rotated") w = .ok (some false) w := by kernel_rfl
theorem constant_any (x : Int) (w : World) :
    Calls Try.prog 70 #[.agg #[], .int .i64 x] w fun e w' => e = .returned (.int .i64 x) ∧ Below w.heap.size w w' := by
  go_enter Try.func70, Try.ntmps70
  go_wp2_with fail
  go_ret
  exact ⟨rfl, by (repeat (with_reducible first | exact bR _ _ | assumption | refine bD ?_ | refine bN ?_ _ | refine bA ?_ _ | refine bS ?_ _))⟩
theorem sum_any (a b : Int) (ha : isB a) (hb : isB b) (w : World) :
    Calls Try.prog 71 #[.agg #[], .int .i64 a, .int .i64 b] w fun e w' => e = .returned (.int .i64 (sm a b)) ∧ Below w.heap.size w w' := by
  obtain ⟨-, h1⟩ := sm_at ha hb
  have wa : IntKind.i64.wrap (a + b) = a + b := by rw [IntKind.wrap_i64]; unfold isB at *; omega
  have H1 := Lib.hid h1; clear h1
  go_enter Try.func71, Try.ntmps71
  go_wp2_with fail
  go_ret
  exact ⟨congrArg (fun z => Ending.returned (.int .i64 z)) H1.out, by (repeat (with_reducible first | exact bR _ _ | assumption | refine bD ?_ | refine bN ?_ _ | refine bA ?_ _ | refine bS ?_ _))⟩
theorem xor_any (a b : Int) (w : World) :
    Calls Try.prog 72 #[.agg #[], .int .i64 a, .int .i64 b] w fun e w' => e = .returned (.int .i64 (xr a b)) ∧ Below w.heap.size w w' := by
  go_enter Try.func72, Try.ntmps72
  go_wp2_with fail
  go_ret
  exact ⟨rfl, by (repeat (with_reducible first | exact bR _ _ | assumption | refine bD ?_ | refine bN ?_ _ | refine bA ?_ _ | refine bS ?_ _))⟩

set_option maxRecDepth 100000 in
set_option maxHeartbeats 1600000 in
theorem mixStep_any (h0 h1 h2 h3 m : Int) (w : World) (b0 : isB h0) (b1 : isB h1) (b2 : isB h2) (b3 : isB h3) (bm : isB m) :
    Calls Try.prog 37 #[.iface 48 (.agg #[]), .agg #[.int .i64 h0, .int .i64 h1, .int .i64 h2, .int .i64 h3], .int .i64 m] w fun e w' => e = .returned (.agg #[.int .i64 (stB h0 h1 h2 h3 m), .int .i64 (stC h0 h2 h3 m), .int .i64 (stD h0 h3 m), .int .i64 (stA h0 m)]) ∧ Below w.heap.size w w' := by
  have A := stA_B b0 bm
  have D := stD_B b0 b3 bm
  have C := stC_B b0 b2 b3 bm
  have B := stB_B b0 b1 b2 b3 bm
  have xa := xr_at b3 A
  have xc := xr_at b1 C
  have hmf : ∀ (fn : Fn) (first cap : Array Value) (w : World), (Instr.makeFunc fn first cap).run Try.prog w = .ok (.func fn first cap) w := fun _ _ _ _ => rfl
  have i1 := inv_sum
  have i2 := inv_xor
  have i3 := inv_rotated
  have i4 := nil_rotated
  have S1 : ∀ w, Calls Try.prog 71 #[.agg #[], .int .i64 h0, .int .i64 m] w fun e w' => e = .returned (.int .i64 (stA h0 m)) ∧ Below w.heap.size w w' := fun w => sum_any _ _ b0 bm w
  have S2 : ∀ w, Calls Try.prog 71 #[.agg #[], .int .i64 h2, .int .i64 (stD h0 h3 m)] w fun e w' => e = .returned (.int .i64 (stC h0 h2 h3 m)) ∧ Below w.heap.size w w' := fun w => sum_any _ _ b2 D w
  have R1 : ∀ w, Calls Try.prog 33 #[.agg #[], .int .i64 (xr h3 (stA h0 m)), .int .i64 3] w fun e w' => e = .returned (.int .i64 (stD h0 h3 m)) ∧ Below w.heap.size w w' := fun w => rotated_any (.int .i64 0) _ 3 xa.1 xa.2 (by omega) (by omega) w
  have R2 : ∀ w, Calls Try.prog 33 #[.agg #[], .int .i64 (xr h1 (stC h0 h2 h3 m)), .int .i64 5] w fun e w' => e = .returned (.int .i64 (stB h0 h1 h2 h3 m)) ∧ Below w.heap.size w w' := fun w => rotated_any (.int .i64 0) _ 5 xc.1 xc.2 (by omega) (by omega) w
  have HS1 := Lib.hid S1
  have HS2 := Lib.hid S2
  have HR1 := Lib.hid R1
  have HR2 := Lib.hid R2
  clear S1 S2 R1 R2 xa xc
  go_enter Try.func37, Try.ntmps37
  go_wp2_with fail
  refine name_call fun w1 hw1 => ?_
  have k1 : Below w.heap.size w w1 := by rw [hw1]; (repeat (with_reducible first | exact bR _ _ | assumption | refine bD ?_ | refine bN ?_ _ | refine bA ?_ _ | refine bS ?_ _))
  have z1 : w.heap.size + 2 ≤ w1.heap.size := by rw [hw1]; simp
  have c11 : w1.cell? ⟨w.heap.size, 1, none⟩ = some (.int .i64 h1) := by rw [hw1]; first | (simp; done) | go_simp
  have c12 : w1.cell? ⟨w.heap.size, 2, none⟩ = some (.int .i64 h2) := by rw [hw1]; first | (simp; done) | go_simp
  have c13 : w1.cell? ⟨w.heap.size, 3, none⟩ = some (.int .i64 h3) := by rw [hw1]; first | (simp; done) | go_simp
  have r10 : w1.cell? ⟨w.heap.size + 1, 0, none⟩ = some (.int .i64 0) := by rw [hw1]; first | (simp; done) | go_simp
  have r11 : w1.cell? ⟨w.heap.size + 1, 1, none⟩ = some (.int .i64 0) := by rw [hw1]; first | (simp; done) | go_simp
  have r12 : w1.cell? ⟨w.heap.size + 1, 2, none⟩ = some (.int .i64 0) := by rw [hw1]; first | (simp; done) | go_simp
  have r13 : w1.cell? ⟨w.heap.size + 1, 3, none⟩ = some (.int .i64 0) := by rw [hw1]; first | (simp; done) | go_simp
  have fr10 : w1.frozen? ⟨w.heap.size + 1, 0, none⟩ = false := by rw [hw1]; first | (simp; done) | go_simp
  have fr11 : w1.frozen? ⟨w.heap.size + 1, 1, none⟩ = false := by rw [hw1]; first | (simp; done) | go_simp
  have fr12 : w1.frozen? ⟨w.heap.size + 1, 2, none⟩ = false := by rw [hw1]; first | (simp; done) | go_simp
  have fr13 : w1.frozen? ⟨w.heap.size + 1, 3, none⟩ = false := by rw [hw1]; first | (simp; done) | go_simp
  clear hw1
  refine (HS1.out _).mono ?_; rintro e w2 ⟨rfl, f2⟩
  have k2 := k1.trans (f2.mono (by omega))
  have z2 := f2.size
  have c21 := ck f2 c11
  have c22 := ck f2 c12
  have c23 := ck f2 c13
  clear c11 c12 c13
  have r20 := ck f2 r10
  have r21 := ck f2 r11
  have r22 := ck f2 r12
  have r23 := ck f2 r13
  have fr20 := fk f2 fr10
  have fr21 := fk f2 fr11
  have fr22 := fk f2 fr12
  have fr23 := fk f2 fr13
  clear r10 r11 r12 r13 fr10 fr11 fr12 fr13
  go_wp2_with fail
  have d2 : Below w2.heap.size w2 w2.drew := (Below.refl _ _).drew
  have zd2 : w2.heap.size ≤ w2.drew.heap.size := Nat.le_refl _
  have G3 : w2.drew.cell? ⟨w.heap.size, 3, none⟩ = some (.int .i64 h3) := ck d2 c23
  go_cut [8] (fun s8 wx => s8 = .int .i64 (stD h0 h3 m) ∧ Below (w2.drew.heap.size) (w2.drew) wx ∧ (w2.drew).heap.size ≤ wx.heap.size)
  case first =>
    rename_i J K' hJ hK
    refine wp_region_drawn [8, 16, 17, 18, 19, 20, 21, 22, 23, 24, 25] (fun d u wx => Below (w2.drew.heap.size) (w2.drew) wx ∧ (w2.drew).heap.size ≤ wx.heap.size ∧ (d 0 = true → u 16 = .iface 48 (.agg #[])) ∧ (d 1 = true → u 17 = .iface 48 (.agg #[])) ∧ (d 2 = true → u 18 = .pointer (some ⟨w.heap.size, 3, none⟩)) ∧ (d 3 = true → u 19 = .int .i64 h3) ∧ (d 4 = true → u 20 = .int .i64 (stA h0 m)) ∧ (d 5 = true → u 21 = .int .i64 (xr h3 (stA h0 m))) ∧ (d 6 = true → u 22 = .func (Fn.method "loop.example/g00543/impl.rotated") #[.iface 48 (.agg #[])] #[]) ∧ (d 7 = true → u 23 = .func (Fn.method "loop.example/g00543/impl.rotated") #[.iface 48 (.agg #[])] #[]) ∧ (d 8 = true → u 24 = .iface 48 (.agg #[])) ∧ (d 9 = true → u 25 = .int .i64 (stD h0 h3 m)) ∧ (d 10 = true → u 8 = .int .i64 (stD h0 h3 m))) (by kernel_rfl) (by kernel_rfl) (by kernel_rfl) ?_ ?_ ?_
    · intro u; exact ⟨Below.refl _ _, Nat.le_refl _, vac0 rfl, vac0 rfl, vac0 rfl, vac0 rfl, vac0 rfl, vac0 rfl, vac0 rfl, vac0 rfl, vac0 rfl, vac0 rfl, vac0 rfl⟩
    · refine ⟨?_, ?_, ?_, ?_, ?_, ?_, ?_, ?_, ?_, ?_, ?_, trivial⟩
      · intro d u wx hd0 hd hF
        obtain ⟨hb, hz, f0, f1, f2, f3, f4, f5, f6, f7, f8, f9, f10⟩ := hF
        refine Wpv.env fun ρ hin hout hcon hfun => ?_
        have E0 : ρ (.tmp 0) = .iface 48 (.agg #[]) := (hout 0 (by kernel_rfl)).trans (by kernel_rfl)
        clear hin hout
        refine Wpv.value (v := .iface 48 (.agg #[])) (w' := wx) ?_ ⟨hb, hz, fun _ => rfl, f1, f2, f3, f4, f5, f6, f7, f8, f9, f10⟩
        clear f0 f1 f2 f3 f4 f5 f6 f7 f8 f9 f10
        simp only [execOp]; rw [E0]; go_simp
      · intro d u wx hd0 hd hF
        obtain ⟨hb, hz, f0, f1, f2, f3, f4, f5, f6, f7, f8, f9, f10⟩ := hF
        refine Wpv.env fun ρ hin hout hcon hfun => ?_
        have E0 : ρ (.tmp 0) = .iface 48 (.agg #[]) := (hout 0 (by kernel_rfl)).trans (by kernel_rfl)
        clear hin hout
        refine Wpv.value (v := .iface 48 (.agg #[])) (w' := wx) ?_ ⟨hb, hz, f0, fun _ => rfl, f2, f3, f4, f5, f6, f7, f8, f9, f10⟩
        clear f0 f1 f2 f3 f4 f5 f6 f7 f8 f9 f10
        simp only [execOp]; rw [E0]; go_simp
      · intro d u wx hd0 hd hF
        obtain ⟨hb, hz, f0, f1, f2, f3, f4, f5, f6, f7, f8, f9, f10⟩ := hF
        refine Wpv.env fun ρ hin hout hcon hfun => ?_
        have E4 : ρ (.tmp 4) = .pointer (some ⟨w.heap.size, 0, none⟩) := (hout 4 (by kernel_rfl)).trans (by kernel_rfl)
        clear hin hout
        refine Wpv.value (v := .pointer (some ⟨w.heap.size, 3, none⟩)) (w' := wx) ?_ ⟨hb, hz, f0, f1, fun _ => rfl, f3, f4, f5, f6, f7, f8, f9, f10⟩
        clear f0 f1 f2 f3 f4 f5 f6 f7 f8 f9 f10
        simp only [execOp]; rw [E4]; go_simp
      · intro d u wx hd0 hd hF
        obtain ⟨hb, hz, f0, f1, f2, f3, f4, f5, f6, f7, f8, f9, f10⟩ := hF
        refine Wpv.env fun ρ hin hout hcon hfun => ?_
        have E18 := (hin 18 (by kernel_rfl)).trans (f2 (hd.get (j := 2) (by kernel_rfl)))
        clear hin hout
        have c0 := cell_keep hb G3
        refine Wpv.value (v := .int .i64 h3) (w' := wx) ?_ ⟨hb, hz, f0, f1, f2, fun _ => rfl, f4, f5, f6, f7, f8, f9, f10⟩
        clear f0 f1 f2 f3 f4 f5 f6 f7 f8 f9 f10
        simp only [execOp]; go_simp
      · intro d u wx hd0 hd hF
        obtain ⟨hb, hz, f0, f1, f2, f3, f4, f5, f6, f7, f8, f9, f10⟩ := hF
        refine Wpv.env fun ρ hin hout hcon hfun => ?_
        have E7 : ρ (.tmp 7) = .int .i64 (stA h0 m) := (hout 7 (by kernel_rfl)).trans (by kernel_rfl)
        clear hin hout
        refine Wpv.value (v := .int .i64 (stA h0 m)) (w' := wx) ?_ ⟨hb, hz, f0, f1, f2, f3, fun _ => rfl, f5, f6, f7, f8, f9, f10⟩
        clear f0 f1 f2 f3 f4 f5 f6 f7 f8 f9 f10
        simp only [execOp]; rw [E7]; go_simp
      · intro d u wx hd0 hd hF
        obtain ⟨hb, hz, f0, f1, f2, f3, f4, f5, f6, f7, f8, f9, f10⟩ := hF
        refine Wpv.env fun ρ hin hout hcon hfun => ?_
        have E17 := (hin 17 (by kernel_rfl)).trans (f1 (hd.get (j := 1) (by kernel_rfl)))
        have E19 := (hin 19 (by kernel_rfl)).trans (f3 (hd.get (j := 3) (by kernel_rfl)))
        have E20 := (hin 20 (by kernel_rfl)).trans (f4 (hd.get (j := 4) (by kernel_rfl)))
        clear hin hout
        refine Wpv.enter (f := 72) (args := #[.agg #[], .int .i64 h3, .int .i64 (stA h0 m)]) (w' := wx) (by clear f0 f1 f2 f3 f4 f5 f6 f7 f8 f9 f10; go_simp) (xor_any h3 (stA h0 m) wx) ?_
        rintro e' w' ⟨rfl, j1⟩
        exact ⟨_, rfl, ⟨hb.trans (j1.mono (by omega)), Nat.le_trans hz j1.size, f0, f1, f2, f3, f4, fun _ => rfl, f6, f7, f8, f9, f10⟩⟩
      · intro d u wx hd0 hd hF
        obtain ⟨hb, hz, f0, f1, f2, f3, f4, f5, f6, f7, f8, f9, f10⟩ := hF
        refine Wpv.env fun ρ hin hout hcon hfun => ?_
        have E16 := (hin 16 (by kernel_rfl)).trans (f0 (hd.get (j := 0) (by kernel_rfl)))
        clear hin hout
        refine Wpv.value (v := .func (Fn.method "loop.example/g00543/impl.rotated") #[.iface 48 (.agg #[])] #[]) (w' := wx) ?_ ⟨hb, hz, f0, f1, f2, f3, f4, f5, fun _ => rfl, f7, f8, f9, f10⟩
        clear f0 f1 f2 f3 f4 f5 f6 f7 f8 f9 f10
        simp only [execOp]; go_simp
      · intro d u wx hd0 hd hF
        obtain ⟨hb, hz, f0, f1, f2, f3, f4, f5, f6, f7, f8, f9, f10⟩ := hF
        refine Wpv.env fun ρ hin hout hcon hfun => ?_
        have E22 := (hin 22 (by kernel_rfl)).trans (f6 (hd.get (j := 6) (by kernel_rfl)))
        clear hin hout
        refine Wpv.value (v := .func (Fn.method "loop.example/g00543/impl.rotated") #[.iface 48 (.agg #[])] #[]) (w' := wx) ?_ ⟨hb, hz, f0, f1, f2, f3, f4, f5, f6, fun _ => rfl, f8, f9, f10⟩
        clear f0 f1 f2 f3 f4 f5 f6 f7 f8 f9 f10
        simp only [execOp]; go_simp
      · intro d u wx hd0 hd hF
        obtain ⟨hb, hz, f0, f1, f2, f3, f4, f5, f6, f7, f8, f9, f10⟩ := hF
        refine Wpv.env fun ρ hin hout hcon hfun => ?_
        have E16 := (hin 16 (by kernel_rfl)).trans (f0 (hd.get (j := 0) (by kernel_rfl)))
        clear hin hout
        refine Wpv.value (v := .iface 48 (.agg #[])) (w' := wx) ?_ ⟨hb, hz, f0, f1, f2, f3, f4, f5, f6, f7, fun _ => rfl, f9, f10⟩
        clear f0 f1 f2 f3 f4 f5 f6 f7 f8 f9 f10
        simp only [execOp]; go_simp
      · intro d u wx hd0 hd hF
        obtain ⟨hb, hz, f0, f1, f2, f3, f4, f5, f6, f7, f8, f9, f10⟩ := hF
        refine Wpv.env fun ρ hin hout hcon hfun => ?_
        have E24 := (hin 24 (by kernel_rfl)).trans (f8 (hd.get (j := 8) (by kernel_rfl)))
        have E21 := (hin 21 (by kernel_rfl)).trans (f5 (hd.get (j := 5) (by kernel_rfl)))
        clear hin hout
        refine Wpv.enter (f := 33) (args := #[.agg #[], .int .i64 (xr h3 (stA h0 m)), .int .i64 3]) (w' := wx) (by clear f0 f1 f2 f3 f4 f5 f6 f7 f8 f9 f10; go_simp) (HR1.out wx) ?_
        rintro e' w' ⟨rfl, j1⟩
        exact ⟨_, rfl, ⟨hb.trans (j1.mono (by omega)), Nat.le_trans hz j1.size, f0, f1, f2, f3, f4, f5, f6, f7, f8, fun _ => rfl, f10⟩⟩
      · intro d u wx hd0 hd hF
        obtain ⟨hb, hz, f0, f1, f2, f3, f4, f5, f6, f7, f8, f9, f10⟩ := hF
        refine Wpv.env fun ρ hin hout hcon hfun => ?_
        have E25 := (hin 25 (by kernel_rfl)).trans (f9 (hd.get (j := 9) (by kernel_rfl)))
        clear hin hout
        refine Wpv.value (v := .int .i64 (stD h0 h3 m)) (w' := wx) ?_ ⟨hb, hz, f0, f1, f2, f3, f4, f5, f6, f7, f8, f9, fun _ => rfl⟩
        clear f0 f1 f2 f3 f4 f5 f6 f7 f8 f9 f10
        simp only [execOp]; go_simp
    · intro d u wx hall hF
      obtain ⟨hb, hz, f0, f1, f2, f3, f4, f5, f6, f7, f8, f9, f10⟩ := hF
      have fC : u 8 = .int .i64 (stD h0 h3 m) ∧ Below (w2.drew.heap.size) (w2.drew) wx ∧ (w2.drew).heap.size ≤ wx.heap.size := ⟨f10 (hall 10 (by decide)), hb, hz⟩
      clear f0 f1 f2 f3 f4 f5 f6 f7 f8 f9 f10
      refine hK _ _ (Met.intro (hJ _ _ ?_))
      simp only [setF, List.foldl_cons, List.foldl_nil, Act.put, List.setIfInBounds_toArray, List.set_cons_zero, List.set_cons_succ]
      repeat apply Exists.intro
      exact ⟨fC, rfl⟩
  obtain ⟨rfl, f3', z3'⟩ := hcut
  have f3 : Below w2.heap.size w2 wc := d2.trans f3'
  have k3 := k2.trans (f3.mono (by omega))
  have z3 := f3.size
  have c31 := ck f3 c21
  have c32 := ck f3 c22
  clear c21 c22 c23 G3
  have r30 := ck f3 r20
  have r31 := ck f3 r21
  have r32 := ck f3 r22
  have r33 := ck f3 r23
  have fr30 := fk f3 fr20
  have fr31 := fk f3 fr21
  have fr32 := fk f3 fr22
  have fr33 := fk f3 fr23
  clear r20 r21 r22 r23 fr20 fr21 fr22 fr23
  go_wp2_with fail
  refine (HS2.out _).mono ?_; rintro e w4 ⟨rfl, f4⟩
  have k4 := k3.trans (f4.mono (by omega))
  have z4 := f4.size
  have c41 := ck f4 c31
  clear c31 c32
  have r40 := ck f4 r30
  have r41 := ck f4 r31
  have r42 := ck f4 r32
  have r43 := ck f4 r33
  have fr40 := fk f4 fr30
  have fr41 := fk f4 fr31
  have fr42 := fk f4 fr32
  have fr43 := fk f4 fr33
  clear r30 r31 r32 r33 fr30 fr31 fr32 fr33
  go_wp2_with fail
  have d4 : Below w4.heap.size w4 w4.drew := (Below.refl _ _).drew
  have zd4 : w4.heap.size ≤ w4.drew.heap.size := Nat.le_refl _
  have G1 : w4.drew.cell? ⟨w.heap.size, 1, none⟩ = some (.int .i64 h1) := ck d4 c41
  go_cut [10] (fun s10 wx => s10 = .int .i64 (stB h0 h1 h2 h3 m) ∧ Below (w4.drew.heap.size) (w4.drew) wx ∧ (w4.drew).heap.size ≤ wx.heap.size)
  case first =>
    rename_i J K' hJ hK
    refine wp_region_drawn [10, 31, 32, 33, 34, 35, 36, 37, 38, 39, 40] (fun d u wx => Below (w4.drew.heap.size) (w4.drew) wx ∧ (w4.drew).heap.size ≤ wx.heap.size ∧ (d 0 = true → u 31 = .iface 48 (.agg #[])) ∧ (d 1 = true → u 32 = .iface 48 (.agg #[])) ∧ (d 2 = true → u 33 = .pointer (some ⟨w.heap.size, 1, none⟩)) ∧ (d 3 = true → u 34 = .int .i64 h1) ∧ (d 4 = true → u 35 = .int .i64 (stC h0 h2 h3 m)) ∧ (d 5 = true → u 36 = .int .i64 (xr h1 (stC h0 h2 h3 m))) ∧ (d 6 = true → u 37 = .func (Fn.method "loop.example/g00543/impl.rotated") #[.iface 48 (.agg #[])] #[]) ∧ (d 7 = true → u 38 = .func (Fn.method "loop.example/g00543/impl.rotated") #[.iface 48 (.agg #[])] #[]) ∧ (d 8 = true → u 39 = .iface 48 (.agg #[])) ∧ (d 9 = true → u 40 = .int .i64 (stB h0 h1 h2 h3 m)) ∧ (d 10 = true → u 10 = .int .i64 (stB h0 h1 h2 h3 m))) (by kernel_rfl) (by kernel_rfl) (by kernel_rfl) ?_ ?_ ?_
    · intro u; exact ⟨Below.refl _ _, Nat.le_refl _, vac0 rfl, vac0 rfl, vac0 rfl, vac0 rfl, vac0 rfl, vac0 rfl, vac0 rfl, vac0 rfl, vac0 rfl, vac0 rfl, vac0 rfl⟩
    · refine ⟨?_, ?_, ?_, ?_, ?_, ?_, ?_, ?_, ?_, ?_, ?_, trivial⟩
      · intro d u wx hd0 hd hF
        obtain ⟨hb, hz, f0, f1, f2, f3, f4, f5, f6, f7, f8, f9, f10⟩ := hF
        refine Wpv.env fun ρ hin hout hcon hfun => ?_
        have E0 : ρ (.tmp 0) = .iface 48 (.agg #[]) := (hout 0 (by kernel_rfl)).trans (by kernel_rfl)
        clear hin hout
        refine Wpv.value (v := .iface 48 (.agg #[])) (w' := wx) ?_ ⟨hb, hz, fun _ => rfl, f1, f2, f3, f4, f5, f6, f7, f8, f9, f10⟩
        clear f0 f1 f2 f3 f4 f5 f6 f7 f8 f9 f10
        simp only [execOp]; rw [E0]; go_simp
      · intro d u wx hd0 hd hF
        obtain ⟨hb, hz, f0, f1, f2, f3, f4, f5, f6, f7, f8, f9, f10⟩ := hF
        refine Wpv.env fun ρ hin hout hcon hfun => ?_
        have E0 : ρ (.tmp 0) = .iface 48 (.agg #[]) := (hout 0 (by kernel_rfl)).trans (by kernel_rfl)
        clear hin hout
        refine Wpv.value (v := .iface 48 (.agg #[])) (w' := wx) ?_ ⟨hb, hz, f0, fun _ => rfl, f2, f3, f4, f5, f6, f7, f8, f9, f10⟩
        clear f0 f1 f2 f3 f4 f5 f6 f7 f8 f9 f10
        simp only [execOp]; rw [E0]; go_simp
      · intro d u wx hd0 hd hF
        obtain ⟨hb, hz, f0, f1, f2, f3, f4, f5, f6, f7, f8, f9, f10⟩ := hF
        refine Wpv.env fun ρ hin hout hcon hfun => ?_
        have E4 : ρ (.tmp 4) = .pointer (some ⟨w.heap.size, 0, none⟩) := (hout 4 (by kernel_rfl)).trans (by kernel_rfl)
        clear hin hout
        refine Wpv.value (v := .pointer (some ⟨w.heap.size, 1, none⟩)) (w' := wx) ?_ ⟨hb, hz, f0, f1, fun _ => rfl, f3, f4, f5, f6, f7, f8, f9, f10⟩
        clear f0 f1 f2 f3 f4 f5 f6 f7 f8 f9 f10
        simp only [execOp]; rw [E4]; go_simp
      · intro d u wx hd0 hd hF
        obtain ⟨hb, hz, f0, f1, f2, f3, f4, f5, f6, f7, f8, f9, f10⟩ := hF
        refine Wpv.env fun ρ hin hout hcon hfun => ?_
        have E33 := (hin 33 (by kernel_rfl)).trans (f2 (hd.get (j := 2) (by kernel_rfl)))
        clear hin hout
        have c0 := cell_keep hb G1
        refine Wpv.value (v := .int .i64 h1) (w' := wx) ?_ ⟨hb, hz, f0, f1, f2, fun _ => rfl, f4, f5, f6, f7, f8, f9, f10⟩
        clear f0 f1 f2 f3 f4 f5 f6 f7 f8 f9 f10
        simp only [execOp]; go_simp
      · intro d u wx hd0 hd hF
        obtain ⟨hb, hz, f0, f1, f2, f3, f4, f5, f6, f7, f8, f9, f10⟩ := hF
        refine Wpv.env fun ρ hin hout hcon hfun => ?_
        have E9 : ρ (.tmp 9) = .int .i64 (stC h0 h2 h3 m) := (hout 9 (by kernel_rfl)).trans (by kernel_rfl)
        clear hin hout
        refine Wpv.value (v := .int .i64 (stC h0 h2 h3 m)) (w' := wx) ?_ ⟨hb, hz, f0, f1, f2, f3, fun _ => rfl, f5, f6, f7, f8, f9, f10⟩
        clear f0 f1 f2 f3 f4 f5 f6 f7 f8 f9 f10
        simp only [execOp]; rw [E9]; go_simp
      · intro d u wx hd0 hd hF
        obtain ⟨hb, hz, f0, f1, f2, f3, f4, f5, f6, f7, f8, f9, f10⟩ := hF
        refine Wpv.env fun ρ hin hout hcon hfun => ?_
        have E32 := (hin 32 (by kernel_rfl)).trans (f1 (hd.get (j := 1) (by kernel_rfl)))
        have E34 := (hin 34 (by kernel_rfl)).trans (f3 (hd.get (j := 3) (by kernel_rfl)))
        have E35 := (hin 35 (by kernel_rfl)).trans (f4 (hd.get (j := 4) (by kernel_rfl)))
        clear hin hout
        refine Wpv.enter (f := 72) (args := #[.agg #[], .int .i64 h1, .int .i64 (stC h0 h2 h3 m)]) (w' := wx) (by clear f0 f1 f2 f3 f4 f5 f6 f7 f8 f9 f10; go_simp) (xor_any h1 (stC h0 h2 h3 m) wx) ?_
        rintro e' w' ⟨rfl, j1⟩
        exact ⟨_, rfl, ⟨hb.trans (j1.mono (by omega)), Nat.le_trans hz j1.size, f0, f1, f2, f3, f4, fun _ => rfl, f6, f7, f8, f9, f10⟩⟩
      · intro d u wx hd0 hd hF
        obtain ⟨hb, hz, f0, f1, f2, f3, f4, f5, f6, f7, f8, f9, f10⟩ := hF
        refine Wpv.env fun ρ hin hout hcon hfun => ?_
        have E31 := (hin 31 (by kernel_rfl)).trans (f0 (hd.get (j := 0) (by kernel_rfl)))
        clear hin hout
        refine Wpv.value (v := .func (Fn.method "loop.example/g00543/impl.rotated") #[.iface 48 (.agg #[])] #[]) (w' := wx) ?_ ⟨hb, hz, f0, f1, f2, f3, f4, f5, fun _ => rfl, f7, f8, f9, f10⟩
        clear f0 f1 f2 f3 f4 f5 f6 f7 f8 f9 f10
        simp only [execOp]; go_simp
      · intro d u wx hd0 hd hF
        obtain ⟨hb, hz, f0, f1, f2, f3, f4, f5, f6, f7, f8, f9, f10⟩ := hF
        refine Wpv.env fun ρ hin hout hcon hfun => ?_
        have E37 := (hin 37 (by kernel_rfl)).trans (f6 (hd.get (j := 6) (by kernel_rfl)))
        clear hin hout
        refine Wpv.value (v := .func (Fn.method "loop.example/g00543/impl.rotated") #[.iface 48 (.agg #[])] #[]) (w' := wx) ?_ ⟨hb, hz, f0, f1, f2, f3, f4, f5, f6, fun _ => rfl, f8, f9, f10⟩
        clear f0 f1 f2 f3 f4 f5 f6 f7 f8 f9 f10
        simp only [execOp]; go_simp
      · intro d u wx hd0 hd hF
        obtain ⟨hb, hz, f0, f1, f2, f3, f4, f5, f6, f7, f8, f9, f10⟩ := hF
        refine Wpv.env fun ρ hin hout hcon hfun => ?_
        have E31 := (hin 31 (by kernel_rfl)).trans (f0 (hd.get (j := 0) (by kernel_rfl)))
        clear hin hout
        refine Wpv.value (v := .iface 48 (.agg #[])) (w' := wx) ?_ ⟨hb, hz, f0, f1, f2, f3, f4, f5, f6, f7, fun _ => rfl, f9, f10⟩
        clear f0 f1 f2 f3 f4 f5 f6 f7 f8 f9 f10
        simp only [execOp]; go_simp
      · intro d u wx hd0 hd hF
        obtain ⟨hb, hz, f0, f1, f2, f3, f4, f5, f6, f7, f8, f9, f10⟩ := hF
        refine Wpv.env fun ρ hin hout hcon hfun => ?_
        have E39 := (hin 39 (by kernel_rfl)).trans (f8 (hd.get (j := 8) (by kernel_rfl)))
        have E36 := (hin 36 (by kernel_rfl)).trans (f5 (hd.get (j := 5) (by kernel_rfl)))
        clear hin hout
        refine Wpv.enter (f := 33) (args := #[.agg #[], .int .i64 (xr h1 (stC h0 h2 h3 m)), .int .i64 5]) (w' := wx) (by clear f0 f1 f2 f3 f4 f5 f6 f7 f8 f9 f10; go_simp) (HR2.out wx) ?_
        rintro e' w' ⟨rfl, j1⟩
        exact ⟨_, rfl, ⟨hb.trans (j1.mono (by omega)), Nat.le_trans hz j1.size, f0, f1, f2, f3, f4, f5, f6, f7, f8, fun _ => rfl, f10⟩⟩
      · intro d u wx hd0 hd hF
        obtain ⟨hb, hz, f0, f1, f2, f3, f4, f5, f6, f7, f8, f9, f10⟩ := hF
        refine Wpv.env fun ρ hin hout hcon hfun => ?_
        have E40 := (hin 40 (by kernel_rfl)).trans (f9 (hd.get (j := 9) (by kernel_rfl)))
        clear hin hout
        refine Wpv.value (v := .int .i64 (stB h0 h1 h2 h3 m)) (w' := wx) ?_ ⟨hb, hz, f0, f1, f2, f3, f4, f5, f6, f7, f8, f9, fun _ => rfl⟩
        clear f0 f1 f2 f3 f4 f5 f6 f7 f8 f9 f10
        simp only [execOp]; go_simp
    · intro d u wx hall hF
      obtain ⟨hb, hz, f0, f1, f2, f3, f4, f5, f6, f7, f8, f9, f10⟩ := hF
      have fC : u 10 = .int .i64 (stB h0 h1 h2 h3 m) ∧ Below (w4.drew.heap.size) (w4.drew) wx ∧ (w4.drew).heap.size ≤ wx.heap.size := ⟨f10 (hall 10 (by decide)), hb, hz⟩
      clear f0 f1 f2 f3 f4 f5 f6 f7 f8 f9 f10
      refine hK _ _ (Met.intro (hJ _ _ ?_))
      simp only [setF, List.foldl_cons, List.foldl_nil, Act.put, List.setIfInBounds_toArray, List.set_cons_zero, List.set_cons_succ]
      repeat apply Exists.intro
      exact ⟨fC, rfl⟩
  obtain ⟨rfl, f5', z5'⟩ := hcut
  have f5 : Below w4.heap.size w4 wc := d4.trans f5'
  have k5 := k4.trans (f5.mono (by omega))
  have z5 := f5.size
  clear c41 G1
  have r50 := ck f5 r40
  have r51 := ck f5 r41
  have r52 := ck f5 r42
  have r53 := ck f5 r43
  have fr50 := fk f5 fr40
  have fr51 := fk f5 fr41
  have fr52 := fk f5 fr42
  have fr53 := fk f5 fr43
  clear r40 r41 r42 r43 fr40 fr41 fr42 fr43
  go_wp2_with fail
  exact bodyPost_ret (v := .agg #[.int .i64 (stB h0 h1 h2 h3 m), .int .i64 (stC h0 h2 h3 m), .int .i64 (stD h0 h3 m), .int .i64 (stA h0 m)]) (by simp [results, Try.results37, go_sem, r50, r51, r52, r53]) rfl ⟨rfl, by (repeat (with_reducible first | exact bR _ _ | assumption | refine bD ?_ | refine bN ?_ _ | refine bA ?_ _ | refine bS ?_ _))⟩
end Go.Proofs.Ytldeckiflghpcaa.L
