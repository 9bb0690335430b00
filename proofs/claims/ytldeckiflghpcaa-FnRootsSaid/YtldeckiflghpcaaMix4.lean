/- The program's MixStep and Mix on numbers. -/
import Derived.Test.YtldeckiflghpcaaMix2
import Derived.Test.YtldeckiflghpcaaMix3
import Derived.Laws.Cover3
namespace Go.Proofs.Ytldeckiflghpcaa.L
open Go.RowKit Go.Proofs.Ytldeckiflghpcaa.S
set_option linter.unusedVariables false
set_option linter.unusedSimpArgs false

/-- Four bytes come back. -/
def ResA (w : World) (l : List Int) (e : Ending) (w' : World) : Prop := ∃ h0 h1 h2 h3, e = .returned (.agg #[.int .i64 h0, .int .i64 h1, .int .i64 h2, .int .i64 h3]) ∧ l = [h0, h1, h2, h3] ∧ Below w.heap.size w w'
theorem mixStep_res (h : List Int) (h0 h1 h2 h3 m : Int) (w : World) (e : h = [h0, h1, h2, h3]) (hf : isFour h) (bm : isB m) :
    Calls Try.prog 37 #[.iface 48 (.agg #[]), .agg #[.int .i64 h0, .int .i64 h1, .int .i64 h2, .int .i64 h3], .int .i64 m] w (ResA w (stepL h m)) := by
  subst e
  obtain ⟨x0, x1, x2, x3, e, b0, b1, b2, b3⟩ := hf
  simp only [List.cons.injEq, and_true] at e
  obtain ⟨rfl, rfl, rfl, rfl⟩ := e
  refine (mixStep_any h0 h1 h2 h3 m w b0 b1 b2 b3 bm).mono ?_
  rintro e w' ⟨rfl, f⟩
  exact ⟨_, _, _, _, rfl, rfl, f⟩

set_option maxRecDepth 100000 in
set_option maxHeartbeats 1600000 in
theorem mixStep_impl (lim : Nat) (v : Value) (h : List Int) (m : Int) (w : World) (t : Ints lim w v h) : Calls Try.prog 14 #[v, .int .i64 m] w (ResN w (msL h m)) := by
  obtain ⟨a, ca, rfl, la, ba⟩ := t.shape
  have HC := Lib.hid (fourBytes_any lim (.slice a h.length ca) h w t)
  by_cases hb : fourB h = true
  case' neg =>
    have hb' : fourB h = false := by simpa using hb
    have HF := Lib.hid (msL_no (h := h) (m := m) (fun q => hb q.1))
    have HC' := HC.out
    rw [hb'] at HC'
    have HD := Lib.hid HC'
    clear hb hb' HC HC'
    go_enter Try.func14, Try.ntmps14
    go_wp2_with fail
    refine HD.out.mono ?_; rintro e w1 ⟨rfl, f1⟩
    go_wp2_with fail
    go_ret
    exact ResN.nil HF.out f1
  have HF := Lib.hid hb
  have HC' := HC.out
  rw [hb] at HC'
  have HD := Lib.hid HC'
  clear hb HC HC'
  have hB := isByte_any m
  by_cases hm : isB m
  case' neg =>
    rw [show decide (0 ≤ m ∧ m ≤ 255) = false from decide_eq_false hm] at hB
    have HB := Lib.hid hB
    have HN := Lib.hid (msL_no (h := h) (m := m) (fun q => hm q.2))
    clear hB hm
    go_enter Try.func14, Try.ntmps14
    go_wp2_with fail
    refine HD.out.mono ?_; rintro e w1 ⟨rfl, f1⟩
    go_wp2_with fail
    refine (HB.out _).mono ?_; rintro e w2 ⟨rfl, f2⟩
    have f3 := f1.trans (f2.mono f1.size)
    go_wp2_with fail
    go_ret
    exact ResN.nil HN.out f3
  rw [show decide (0 ≤ m ∧ m ≤ 255) = true from decide_eq_true hm] at hB
  have HB := Lib.hid hB
  have HN := Lib.hid (msL_yes HF.out hm)
  clear hB
  obtain ⟨h0, h1, h2, h3, rfl, b0, b1, b2, b3⟩ := fourB_elim HF.out
  clear HF
  have B := stB_B b0 b1 b2 b3 hm
  have C := stC_B b0 b2 b3 hm
  have D := stD_B b0 b3 hm
  have A := stA_B b0 hm
  obtain ⟨b, off, x, rfl, l0, c0, e0, f0⟩ := t.at (k := 0) (by simp)
  obtain ⟨b', off', x1, e', l1, c1, e1, f1⟩ := t.at (k := 1) (by simp)
  simp only [Option.some.injEq, Addr.mk.injEq, and_true] at e'; obtain ⟨rfl, rfl⟩ := e'
  obtain ⟨b', off', x2, e', l2, c2, e2, f2⟩ := t.at (k := 2) (by simp)
  simp only [Option.some.injEq, Addr.mk.injEq, and_true] at e'; obtain ⟨rfl, rfl⟩ := e'
  obtain ⟨b', off', x3, e', l3, c3, e3, f3⟩ := t.at (k := 3) (by simp)
  simp only [Option.some.injEq, Addr.mk.injEq, and_true] at e'; obtain ⟨rfl, rfl⟩ := e'
  rw [Nat.add_zero] at c0
  simp at e0 e1 e2 e3
  subst e0 e1 e2 e3
  have la4 : (4 : Int) ≤ ca := by simp at la; omega
  have hb := World.block_lt_of_cell? _ _ c0
  clear t f0 f1 f2 f3
  have hat : ∀ w, (Instr.arrayAt 49 (.slice (some ⟨b, off, none⟩) 4 ca)).run Try.prog w = .ok (.pointer (some ⟨b, off, none⟩)) w := fun w => run_arrayAt w 49 3 4 _ 4 ca (by kernel_rfl) (by omega)
  go_enter Try.func14, Try.ntmps14
  go_wp2_with fail
  refine HD.out.mono ?_; rintro e w1 ⟨rfl, f1⟩
  have d0 := ck f1 c0
  have d1 := ck f1 c1
  have d2 := ck f1 c2
  have d3 := ck f1 c3
  have z1 := f1.size
  clear c0 c1 c2 c3
  go_wp2_with fail
  refine (HB.out _).mono ?_; rintro e w2 ⟨rfl, f2⟩
  have c0 := ck f2 d0
  have c1 := ck f2 d1
  have c2 := ck f2 d2
  have c3 := ck f2 d3
  have z2 := f2.size
  clear d0 d1 d2 d3
  go_wp2_with fail
  refine (mixStep_any h0 h1 h2 h3 m _ b0 b1 b2 b3 hm).mono ?_; rintro e w3 ⟨rfl, f3⟩
  have z3 := f3.size
  have k3 : Below w.heap.size w w3 := (f1.trans (f2.mono z1)).trans (f3.mono (by omega))
  clear c0 c1 c2 c3
  go_wp2_with fail
  go_ret
  exact ⟨_, rfl, by (repeat (with_reducible first | exact bR _ _ | assumption | refine bD ?_ | refine bN ?_ _ | refine bA ?_ _ | refine bS ?_ _)), by rw [HN.out]; exact Nums.four w3 _ (by omega) B C D A⟩

/-- A box holds four bytes. -/
def MixBox (b : Nat) (w : World) (l : List Int) : Prop := ∃ h0 h1 h2 h3, l = [h0, h1, h2, h3] ∧ (isB h0 ∧ isB h1 ∧ isB h2 ∧ isB h3) ∧ Bx4 w b h0 h1 h2 h3 ∧ Free4' w b
theorem MixBox.keep {b B : Nat} {w w' : World} {l : List Int} (h : MixBox b w l) (be : Below B w w') (hb : b < B) : MixBox b w' l := by
  obtain ⟨h0, h1, h2, h3, e, q, c, f⟩ := h
  exact ⟨h0, h1, h2, h3, e, q, c.keep be hb, f.keep be hb⟩
theorem MixBox.step {b : Nat} {w : World} {h0 h1 h2 h3 m : Int} (b0 : isB h0) (b1 : isB h1) (b2 : isB h2) (b3 : isB h3) (bm : isB m) (c : Bx4 w b (stB h0 h1 h2 h3 m) (stC h0 h2 h3 m) (stD h0 h3 m) (stA h0 m)) (f : Free4' w b) : MixBox b w (stepL [h0, h1, h2, h3] m) :=
  ⟨_, _, _, _, rfl, ⟨stB_B b0 b1 b2 b3 bm, stC_B b0 b2 b3 bm, stD_B b0 b3 bm, stA_B b0 bm⟩, c, f⟩
theorem put4_box {w : World} {b : Nat} {x0 x1 x2 x3 : Value} (u0 u1 u2 u3 : Int) (c0 : w.cell? ⟨b, 0, none⟩ = some x0) (c1 : w.cell? ⟨b, 1, none⟩ = some x1) (c2 : w.cell? ⟨b, 2, none⟩ = some x2) (c3 : w.cell? ⟨b, 3, none⟩ = some x3) :
    Bx4 (put4 w b (.int .i64 u0) (.int .i64 u1) (.int .i64 u2) (.int .i64 u3)) b u0 u1 u2 u3 := put4_new c0 c1 c2 c3

set_option maxRecDepth 100000 in
set_option maxHeartbeats 3200000 in
theorem mix_any (lim : Nat) (v : Value) (xs : List Int) (w : World) (t : Ints lim w v xs) (hlim : lim ≤ w.heap.size) (hl8 : xs.length ≤ 8) (hb : allB xs = true) : Calls Try.prog 40 #[.iface 48 (.agg #[]), v] w (ResA w (mixM xs)) := by
  obtain ⟨a, ca, rfl, la, ba⟩ := t.shape
  have HB := Lib.hid (allB_mem hb)
  have i1 := inv_constant
  clear hb
  go_enter Try.func40, Try.ntmps40
  go_wp2_with fail
  refine name_call fun w1 hw1 => ?_
  have k1 : Below w.heap.size w w1 := by rw [hw1]; (repeat (with_reducible first | exact bR _ _ | assumption | refine bD ?_ | refine bN ?_ _ | refine bA ?_ _ | refine bS ?_ _))
  have z1 : w.heap.size + 1 ≤ w1.heap.size := by rw [hw1]; simp
  have R1 : MixBox w.heap.size w1 [0, 0, 0, 0] := ⟨0, 0, 0, 0, rfl, ⟨by unfold isB; omega, by unfold isB; omega, by unfold isB; omega, by unfold isB; omega⟩, ⟨by rw [hw1]; simp, by rw [hw1]; simp, by rw [hw1]; simp, by rw [hw1]; simp⟩, ⟨by rw [hw1]; simp, by rw [hw1]; simp, by rw [hw1]; simp, by rw [hw1]; simp⟩⟩
  clear hw1
  refine (constant_any 17 _).mono ?_; rintro e w2 ⟨rfl, f2⟩
  go_wp2_with fail
  refine (constant_any 83 _).mono ?_; rintro e w3 ⟨rfl, f3⟩
  go_wp2_with fail
  refine (constant_any 149 _).mono ?_; rintro e w4 ⟨rfl, f4⟩
  go_wp2_with fail
  refine (constant_any 211 _).mono ?_; rintro e w5 ⟨rfl, f5⟩
  have z2 := f2.size
  have z3 := f3.size
  have z4 := f4.size
  have z5 := f5.size
  have f : Below w1.heap.size w1 w5 := ((f2.trans (f3.mono z2)).trans (f4.mono (by omega))).trans (f5.mono (by omega))
  have k5 := k1.trans (f.mono (by omega))
  have R5 := R1.keep f (by omega)
  clear f2 f3 f4 f5 f R1 k1
  go_wp2_with fail
  go_loopw [19] (fun i wr => ∃ k : Nat, k ≤ xs.length ∧ i = .int .i64 k ∧ Below w.heap.size w wr ∧ w5.heap.size < wr.heap.size ∧ MixBox w5.heap.size wr (foldM (xs.take k)) ∧ MixBox w.heap.size wr [0, 0, 0, 0]) (fun i _ => xs.length - (intOf i).toNat)
  case atStart =>
    refine ⟨0, Nat.zero_le _, rfl, by (repeat (with_reducible first | exact bR _ _ | assumption | refine bD ?_ | refine bN ?_ _ | refine bA ?_ _ | refine bS ?_ _)), by simp, ⟨17, 83, 149, 211, rfl, ⟨by unfold isB; omega, by unfold isB; omega, by unfold isB; omega, by unfold isB; omega⟩, ⟨by simp, by simp, by simp, by simp⟩, ⟨by simp, by simp, by simp, by simp⟩⟩, R5.keep (B := w5.heap.size) (by (repeat (with_reducible first | exact bR _ _ | assumption | refine bD ?_ | refine bN ?_ _ | refine bA ?_ _ | refine bS ?_ _))) (by omega)⟩
  case round =>
    obtain ⟨k, hk, rfl, be, zb, M, R⟩ := hrel
    have zr := be.size
    clear R5
    by_cases hlt : k < xs.length
    · obtain ⟨bq, o1, x, rfl, l1, cx, e1, fx⟩ := (t.keep be hlim).at hlt
      have bm := HB.out x (List.mem_of_getElem? e1)
      have HN := Lib.hid (foldM_snoc e1)
      obtain ⟨h0, h1, h2, h3, eh, ⟨b0, b1, b2, b3⟩, ⟨c0, c1, c2, c3⟩, F⟩ := M
      have HE := Lib.hid eh
      have HT := Lib.hid t
      clear e1 eh fx t
      go_wp2_with fail
      refine (mixStep_any h0 h1 h2 h3 x _ b0 b1 b2 b3 bm).mono ?_; rintro e w6 ⟨rfl, f6⟩
      have g0 := ck f6 c0
      have g1 := ck f6 c1
      have g2 := ck f6 c2
      have g3 := ck f6 c3
      have F6 := F.keep f6 (by omega)
      obtain ⟨q0, q1, q2, q3⟩ := id F6
      have R6 := R.keep f6 (by omega)
      have z6 := f6.size
      have be6 := be.trans (f6.mono zr)
      clear c0 c1 c2 c3 R be F f6 cx
      go_wp2_with fail
      go_roundw
      case rel =>
        have hz : w.heap.size + 1 ≤ w5.heap.size := by omega
        refine ⟨k + 1, by omega, by go_num, put4_below be6 (by omega) _ _ _ _, ?_, ?_, R6.keep (B := w.heap.size + 1) (put4_below (Below.refl _ _) (by omega) _ _ _ _) (by omega)⟩
        · simp; omega
        · rw [HN.out, HE.out]
          exact MixBox.step b0 b1 b2 b3 bm (put4_box _ _ _ _ g0 g1 g2 g3) (F6.put _ _ _ _)
      case measure => simp [intOf]; omega
    · obtain rfl : k = xs.length := by omega
      rw [List.take_length] at M
      have bm : isB (xs.length : Int) := ⟨by omega, by omega⟩
      have HA := Lib.hid (lastM_four (xs := xs) HB.out (by omega))
      obtain ⟨h0, h1, h2, h3, eh, ⟨b0, b1, b2, b3⟩, ⟨c0, c1, c2, c3⟩, F⟩ := M
      have HE := Lib.hid eh
      clear eh t
      have Xm0 : wr.drew.cell? ⟨w5.heap.size, 0, none⟩ = some (.int .i64 h0) := ck (Below.refl _ _).drew c0
      have Xm1 : wr.drew.cell? ⟨w5.heap.size, 1, none⟩ = some (.int .i64 h1) := ck (Below.refl _ _).drew c1
      have Xm2 : wr.drew.cell? ⟨w5.heap.size, 2, none⟩ = some (.int .i64 h2) := ck (Below.refl _ _).drew c2
      have Xm3 : wr.drew.cell? ⟨w5.heap.size, 3, none⟩ = some (.int .i64 h3) := ck (Below.refl _ _).drew c3
      have Xmf : Free4' wr.drew w5.heap.size := F.keep (B := wr.heap.size) (Below.refl _ _).drew zb
      have k7 : w.heap.size + 1 ≤ w5.heap.size := by omega
      have zd : wr.heap.size ≤ wr.drew.heap.size := Nat.le_refl _
      clear c0 c1 c2 c3
      go_wp2_with fail
      go_cut [] (fun  wx => Below (w.heap.size + 1) (wr.drew) wx ∧ (wr.drew).heap.size ≤ wx.heap.size ∧ (wx.cell? ⟨w5.heap.size, 0, none⟩ = some (.int .i64 (stB h0 h1 h2 h3 (xs.length : Int))) ∧ wx.cell? ⟨w5.heap.size, 1, none⟩ = some (.int .i64 (stC h0 h2 h3 (xs.length : Int))) ∧ wx.cell? ⟨w5.heap.size, 2, none⟩ = some (.int .i64 (stD h0 h3 (xs.length : Int))) ∧ wx.cell? ⟨w5.heap.size, 3, none⟩ = some (.int .i64 (stA h0 (xs.length : Int)))) ∧ Free4' wx (w5.heap.size))
      case first =>
        rename_i J K' hJ hK
        refine wp_region_drawn [28, 29, 30, 31, 32, 33, 34] (fun d u wx => Below (w.heap.size + 1) (wr.drew) wx ∧ (wr.drew).heap.size ≤ wx.heap.size ∧ (d 0 = true → u 28 = .iface 48 (.agg #[])) ∧ (d 1 = true → u 29 = .agg #[.int .i64 h0, .int .i64 h1, .int .i64 h2, .int .i64 h3]) ∧ (d 2 = true → u 30 = .iface 48 (.agg #[])) ∧ (d 3 = true → u 31 = .slice a xs.length ca) ∧ (d 4 = true → u 32 = .int .i64 (xs.length : Int)) ∧ (d 5 = true → u 33 = .int .i64 (xs.length : Int)) ∧ (d 6 = true → u 34 = .agg #[.int .i64 (stB h0 h1 h2 h3 (xs.length : Int)), .int .i64 (stC h0 h2 h3 (xs.length : Int)), .int .i64 (stD h0 h3 (xs.length : Int)), .int .i64 (stA h0 (xs.length : Int))]) ∧ (d 7 = true → d 1 = true) ∧ (d 7 = false → wx.cell? ⟨w5.heap.size, 0, none⟩ = some (.int .i64 h0) ∧ wx.cell? ⟨w5.heap.size, 1, none⟩ = some (.int .i64 h1) ∧ wx.cell? ⟨w5.heap.size, 2, none⟩ = some (.int .i64 h2) ∧ wx.cell? ⟨w5.heap.size, 3, none⟩ = some (.int .i64 h3)) ∧ (d 7 = true → wx.cell? ⟨w5.heap.size, 0, none⟩ = some (.int .i64 (stB h0 h1 h2 h3 (xs.length : Int))) ∧ wx.cell? ⟨w5.heap.size, 1, none⟩ = some (.int .i64 (stC h0 h2 h3 (xs.length : Int))) ∧ wx.cell? ⟨w5.heap.size, 2, none⟩ = some (.int .i64 (stD h0 h3 (xs.length : Int))) ∧ wx.cell? ⟨w5.heap.size, 3, none⟩ = some (.int .i64 (stA h0 (xs.length : Int)))) ∧ Free4' wx (w5.heap.size)) (by kernel_rfl) (by kernel_rfl) (by kernel_rfl) ?_ ?_ ?_
        · intro u; exact ⟨Below.refl _ _, Nat.le_refl _, vac0 rfl, vac0 rfl, vac0 rfl, vac0 rfl, vac0 rfl, vac0 rfl, vac0 rfl, vac0 rfl, fun _ => ⟨Xm0, Xm1, Xm2, Xm3⟩, vac0 rfl, Xmf⟩
        · refine ⟨?_, ?_, ?_, ?_, ?_, ?_, ?_, ?_, trivial⟩
          · intro d u wx hd0 hd hF
            obtain ⟨hb, hz, f0, f1, f2, f3, f4, f5, f6, hl, ho, hn, hf⟩ := hF
            refine Wpv.env fun ρ hin hout hcon hfun => ?_
            have E0 : ρ (.tmp 0) = .iface 48 (.agg #[]) := (hout 0 (by kernel_rfl)).trans (by kernel_rfl)
            clear hin hout
            refine Wpv.value (v := .iface 48 (.agg #[])) (w' := wx) ?_ ⟨hb, hz, fun _ => rfl, f1, f2, f3, f4, f5, f6, hl, ho, hn, hf⟩
            clear f0 f1 f2 f3 f4 f5 f6 hl ho hn
            simp only [execOp]; rw [E0]; go_simp
          · intro d u wx hd0 hd hF
            obtain ⟨hb, hz, f0, f1, f2, f3, f4, f5, f6, hl, ho, hn, hf⟩ := hF
            refine Wpv.env fun ρ hin hout hcon hfun => ?_
            have E5 : ρ (.tmp 5) = .pointer (some ⟨w5.heap.size, 0, none⟩) := (hout 5 (by kernel_rfl)).trans (by kernel_rfl)
            clear hin hout
            have hnd : d 7 = false := by cases hq : d 7 with | false => rfl | true => exact absurd (hl hq) (by rw [hd0]; simp)
            obtain ⟨c0, c1, c2, c3⟩ := ho hnd
            refine Wpv.value (v := .agg #[.int .i64 h0, .int .i64 h1, .int .i64 h2, .int .i64 h3]) (w' := wx) ?_ ⟨hb, hz, f0, fun _ => rfl, f2, f3, f4, f5, f6, fun _ => rfl, ho, hn, hf⟩
            clear f0 f1 f2 f3 f4 f5 f6 hl ho hn
            simp only [execOp]; rw [E5]; go_simp
          · intro d u wx hd0 hd hF
            obtain ⟨hb, hz, f0, f1, f2, f3, f4, f5, f6, hl, ho, hn, hf⟩ := hF
            refine Wpv.env fun ρ hin hout hcon hfun => ?_
            have E0 : ρ (.tmp 0) = .iface 48 (.agg #[]) := (hout 0 (by kernel_rfl)).trans (by kernel_rfl)
            clear hin hout
            refine Wpv.value (v := .iface 48 (.agg #[])) (w' := wx) ?_ ⟨hb, hz, f0, f1, fun _ => rfl, f3, f4, f5, f6, hl, ho, hn, hf⟩
            clear f0 f1 f2 f3 f4 f5 f6 hl ho hn
            simp only [execOp]; rw [E0]; go_simp
          · intro d u wx hd0 hd hF
            obtain ⟨hb, hz, f0, f1, f2, f3, f4, f5, f6, hl, ho, hn, hf⟩ := hF
            refine Wpv.env fun ρ hin hout hcon hfun => ?_
            have E1 : ρ (.tmp 1) = .slice a xs.length ca := (hout 1 (by kernel_rfl)).trans (by kernel_rfl)
            clear hin hout
            refine Wpv.value (v := .slice a xs.length ca) (w' := wx) ?_ ⟨hb, hz, f0, f1, f2, fun _ => rfl, f4, f5, f6, hl, ho, hn, hf⟩
            clear f0 f1 f2 f3 f4 f5 f6 hl ho hn
            simp only [execOp]; rw [E1]; go_simp
          · intro d u wx hd0 hd hF
            obtain ⟨hb, hz, f0, f1, f2, f3, f4, f5, f6, hl, ho, hn, hf⟩ := hF
            refine Wpv.env fun ρ hin hout hcon hfun => ?_
            have E31 := (hin 31 (by kernel_rfl)).trans (f3 (hd.get (j := 3) (by kernel_rfl)))
            clear hin hout
            refine Wpv.value (v := .int .i64 (xs.length : Int)) (w' := wx) ?_ ⟨hb, hz, f0, f1, f2, f3, fun _ => rfl, f5, f6, hl, ho, hn, hf⟩
            clear f0 f1 f2 f3 f4 f5 f6 hl ho hn
            simp only [execOp]; go_simp
          · intro d u wx hd0 hd hF
            obtain ⟨hb, hz, f0, f1, f2, f3, f4, f5, f6, hl, ho, hn, hf⟩ := hF
            refine Wpv.env fun ρ hin hout hcon hfun => ?_
            have E30 := (hin 30 (by kernel_rfl)).trans (f2 (hd.get (j := 2) (by kernel_rfl)))
            have E32 := (hin 32 (by kernel_rfl)).trans (f4 (hd.get (j := 4) (by kernel_rfl)))
            clear hin hout
            refine Wpv.enter (f := 70) (args := #[.agg #[], .int .i64 (xs.length : Int)]) (w' := wx) (by clear f0 f1 f2 f3 f4 f5 f6 hl ho hn; go_simp) (constant_any (xs.length : Int) wx) ?_
            rintro e' w' ⟨rfl, j1⟩
            exact ⟨_, rfl, ⟨hb.trans (j1.mono (by omega)), Nat.le_trans hz j1.size, f0, f1, f2, f3, f4, fun _ => rfl, f6, hl, fun hq => by obtain ⟨c0, c1, c2, c3⟩ := ho hq; exact ⟨cell_keep j1 c0, cell_keep j1 c1, cell_keep j1 c2, cell_keep j1 c3⟩, fun hq => by obtain ⟨c0, c1, c2, c3⟩ := hn hq; exact ⟨cell_keep j1 c0, cell_keep j1 c1, cell_keep j1 c2, cell_keep j1 c3⟩, hf.keep j1 (by omega)⟩⟩
          · intro d u wx hd0 hd hF
            obtain ⟨hb, hz, f0, f1, f2, f3, f4, f5, f6, hl, ho, hn, hf⟩ := hF
            refine Wpv.env fun ρ hin hout hcon hfun => ?_
            have E28 := (hin 28 (by kernel_rfl)).trans (f0 (hd.get (j := 0) (by kernel_rfl)))
            have E29 := (hin 29 (by kernel_rfl)).trans (f1 (hd.get (j := 1) (by kernel_rfl)))
            have E33 := (hin 33 (by kernel_rfl)).trans (f5 (hd.get (j := 5) (by kernel_rfl)))
            clear hin hout
            refine Wpv.enter (f := 37) (args := #[.iface 48 (.agg #[]), .agg #[.int .i64 h0, .int .i64 h1, .int .i64 h2, .int .i64 h3], .int .i64 (xs.length : Int)]) (w' := wx) (by clear f0 f1 f2 f3 f4 f5 f6 hl ho hn; go_simp) (mixStep_any h0 h1 h2 h3 (xs.length : Int) wx b0 b1 b2 b3 bm) ?_
            rintro e' w' ⟨rfl, j1⟩
            exact ⟨_, rfl, ⟨hb.trans (j1.mono (by omega)), Nat.le_trans hz j1.size, f0, f1, f2, f3, f4, f5, fun _ => rfl, hl, fun hq => by obtain ⟨c0, c1, c2, c3⟩ := ho hq; exact ⟨cell_keep j1 c0, cell_keep j1 c1, cell_keep j1 c2, cell_keep j1 c3⟩, fun hq => by obtain ⟨c0, c1, c2, c3⟩ := hn hq; exact ⟨cell_keep j1 c0, cell_keep j1 c1, cell_keep j1 c2, cell_keep j1 c3⟩, hf.keep j1 (by omega)⟩⟩
          · intro d u wx hd0 hd hF
            obtain ⟨hb, hz, f0, f1, f2, f3, f4, f5, f6, hl, ho, hn, hf⟩ := hF
            refine Wpv.env fun ρ hin hout hcon hfun => ?_
            have E5 : ρ (.tmp 5) = .pointer (some ⟨w5.heap.size, 0, none⟩) := (hout 5 (by kernel_rfl)).trans (by kernel_rfl)
            have E34 := (hin 34 (by kernel_rfl)).trans (f6 (hd.get (j := 6) (by kernel_rfl)))
            clear hin hout
            obtain ⟨c0, c1, c2, c3⟩ := ho hd0
            obtain ⟨q0, q1, q2, q3⟩ := id hf
            refine Wpv.skip (w' := put4 wx w5.heap.size (.int .i64 (stB h0 h1 h2 h3 (xs.length : Int))) (.int .i64 (stC h0 h2 h3 (xs.length : Int))) (.int .i64 (stD h0 h3 (xs.length : Int))) (.int .i64 (stA h0 (xs.length : Int)))) (by unfold put4; clear f0 f1 f2 f3 f4 f5 f6 hl ho hn; go_simp) ?_
            exact ⟨put4_below hb (by omega) _ _ _ _, by rw [put4_size]; exact hz, f0, f1, f2, f3, f4, f5, f6, fun _ => hd.get (j := 1) (by kernel_rfl), fun hq => by simp [upd] at hq, fun _ => put4_new c0 c1 c2 c3, hf.put _ _ _ _⟩
        · intro d u wx hall hF
          obtain ⟨hb, hz, f0, f1, f2, f3, f4, f5, f6, hl, ho, hn, hf⟩ := hF
          have fC : Below (w.heap.size + 1) (wr.drew) wx ∧ (wr.drew).heap.size ≤ wx.heap.size ∧ (wx.cell? ⟨w5.heap.size, 0, none⟩ = some (.int .i64 (stB h0 h1 h2 h3 (xs.length : Int))) ∧ wx.cell? ⟨w5.heap.size, 1, none⟩ = some (.int .i64 (stC h0 h2 h3 (xs.length : Int))) ∧ wx.cell? ⟨w5.heap.size, 2, none⟩ = some (.int .i64 (stD h0 h3 (xs.length : Int))) ∧ wx.cell? ⟨w5.heap.size, 3, none⟩ = some (.int .i64 (stA h0 (xs.length : Int)))) ∧ Free4' wx (w5.heap.size) := ⟨hb, hz, hn (hall 7 (by decide)), hf⟩
          clear f0 f1 f2 f3 f4 f5 f6 hl ho hn hf
          refine hK _ _ (Met.intro (hJ _ _ ?_))
          simp only [setF, List.foldl_cons, List.foldl_nil, Act.put, List.setIfInBounds_toArray, List.set_cons_zero, List.set_cons_succ]
          repeat apply Exists.intro
          exact ⟨fC, rfl⟩
      obtain ⟨f7, z7, c7, F7⟩ := hcut
      have M7 : MixBox w5.heap.size wc (lastM xs) := by
        have := MixBox.step b0 b1 b2 b3 bm c7 F7
        rw [← HE.out] at this
        exact this
      have k8 : Below w.heap.size w wc := (be.drew).trans (f7.mono (by omega))
      have R7 := R.keep (B := w.heap.size + 1) (((Below.refl _ _).drew).trans f7) (by omega)
      have zc : w5.heap.size < wc.heap.size := by omega
      clear Xm0 Xm1 Xm2 Xm3 Xmf F c7 F7 f7 R be zd z7 HE b0 b1 b2 b3 bm HB
      go_wp2_with fail
      go_loopw [35] (fun i wr => ∃ k : Nat, k ≤ 7 ∧ i = .int .i64 k ∧ Below w.heap.size w wr ∧ w5.heap.size < wr.heap.size ∧ MixBox w5.heap.size wr (zeros k (lastM xs)) ∧ MixBox w.heap.size wr [0, 0, 0, 0]) (fun i _ => 7 - (intOf i).toNat)
      case atStart => exact ⟨0, Nat.zero_le _, rfl, k8, zc, M7, R7⟩
      case round =>
        clear zr zb
        obtain ⟨j, hj, rfl, be, zb, M, R⟩ := hrel
        have zr := be.size
        clear M7 R7 k8
        obtain ⟨h0, h1, h2, h3, eh, ⟨b0, b1, b2, b3⟩, ⟨c0, c1, c2, c3⟩, F⟩ := M
        have HE := Lib.hid eh
        clear eh
        by_cases hlt : j < 7
        · have bm : isB 0 := ⟨by omega, by omega⟩
          have Xm0 : wr.drew.cell? ⟨w5.heap.size, 0, none⟩ = some (.int .i64 h0) := ck (Below.refl _ _).drew c0
          have Xm1 : wr.drew.cell? ⟨w5.heap.size, 1, none⟩ = some (.int .i64 h1) := ck (Below.refl _ _).drew c1
          have Xm2 : wr.drew.cell? ⟨w5.heap.size, 2, none⟩ = some (.int .i64 h2) := ck (Below.refl _ _).drew c2
          have Xm3 : wr.drew.cell? ⟨w5.heap.size, 3, none⟩ = some (.int .i64 h3) := ck (Below.refl _ _).drew c3
          have Xmf : Free4' wr.drew w5.heap.size := F.keep (B := wr.heap.size) (Below.refl _ _).drew zb
          have zd : wr.heap.size ≤ wr.drew.heap.size := Nat.le_refl _
          clear c0 c1 c2 c3
          go_wp2_with fail
          refine wp_region_drawn [37, 38, 39, 40, 41] (fun d u wx => Below (w.heap.size + 1) (wr.drew) wx ∧ (wr.drew).heap.size ≤ wx.heap.size ∧ (d 0 = true → u 37 = .iface 48 (.agg #[])) ∧ (d 1 = true → u 38 = .agg #[.int .i64 h0, .int .i64 h1, .int .i64 h2, .int .i64 h3]) ∧ (d 2 = true → u 39 = .iface 48 (.agg #[])) ∧ (d 3 = true → u 40 = .int .i64 0) ∧ (d 4 = true → u 41 = .agg #[.int .i64 (stB h0 h1 h2 h3 0), .int .i64 (stC h0 h2 h3 0), .int .i64 (stD h0 h3 0), .int .i64 (stA h0 0)]) ∧ (d 5 = true → d 1 = true) ∧ (d 5 = false → wx.cell? ⟨w5.heap.size, 0, none⟩ = some (.int .i64 h0) ∧ wx.cell? ⟨w5.heap.size, 1, none⟩ = some (.int .i64 h1) ∧ wx.cell? ⟨w5.heap.size, 2, none⟩ = some (.int .i64 h2) ∧ wx.cell? ⟨w5.heap.size, 3, none⟩ = some (.int .i64 h3)) ∧ (d 5 = true → wx.cell? ⟨w5.heap.size, 0, none⟩ = some (.int .i64 (stB h0 h1 h2 h3 0)) ∧ wx.cell? ⟨w5.heap.size, 1, none⟩ = some (.int .i64 (stC h0 h2 h3 0)) ∧ wx.cell? ⟨w5.heap.size, 2, none⟩ = some (.int .i64 (stD h0 h3 0)) ∧ wx.cell? ⟨w5.heap.size, 3, none⟩ = some (.int .i64 (stA h0 0))) ∧ Free4' wx (w5.heap.size)) (by kernel_rfl) (by kernel_rfl) (by kernel_rfl) ?_ ?_ ?_
          · intro u; exact ⟨Below.refl _ _, Nat.le_refl _, vac0 rfl, vac0 rfl, vac0 rfl, vac0 rfl, vac0 rfl, vac0 rfl, fun _ => ⟨Xm0, Xm1, Xm2, Xm3⟩, vac0 rfl, Xmf⟩
          · refine ⟨?_, ?_, ?_, ?_, ?_, ?_, trivial⟩
            · intro d u wx hd0 hd hF
              obtain ⟨hb, hz, f0, f1, f2, f3, f4, hl, ho, hn, hf⟩ := hF
              refine Wpv.env fun ρ hin hout hcon hfun => ?_
              have E0 : ρ (.tmp 0) = .iface 48 (.agg #[]) := (hout 0 (by kernel_rfl)).trans (by kernel_rfl)
              clear hin hout
              refine Wpv.value (v := .iface 48 (.agg #[])) (w' := wx) ?_ ⟨hb, hz, fun _ => rfl, f1, f2, f3, f4, hl, ho, hn, hf⟩
              clear f0 f1 f2 f3 f4 hl ho hn
              simp only [execOp]; rw [E0]; go_simp
            · intro d u wx hd0 hd hF
              obtain ⟨hb, hz, f0, f1, f2, f3, f4, hl, ho, hn, hf⟩ := hF
              refine Wpv.env fun ρ hin hout hcon hfun => ?_
              have E5 : ρ (.tmp 5) = .pointer (some ⟨w5.heap.size, 0, none⟩) := (hout 5 (by kernel_rfl)).trans (by kernel_rfl)
              clear hin hout
              have hnd : d 5 = false := by cases hq : d 5 with | false => rfl | true => exact absurd (hl hq) (by rw [hd0]; simp)
              obtain ⟨c0, c1, c2, c3⟩ := ho hnd
              refine Wpv.value (v := .agg #[.int .i64 h0, .int .i64 h1, .int .i64 h2, .int .i64 h3]) (w' := wx) ?_ ⟨hb, hz, f0, fun _ => rfl, f2, f3, f4, fun _ => rfl, ho, hn, hf⟩
              clear f0 f1 f2 f3 f4 hl ho hn
              simp only [execOp]; rw [E5]; go_simp
            · intro d u wx hd0 hd hF
              obtain ⟨hb, hz, f0, f1, f2, f3, f4, hl, ho, hn, hf⟩ := hF
              refine Wpv.env fun ρ hin hout hcon hfun => ?_
              have E0 : ρ (.tmp 0) = .iface 48 (.agg #[]) := (hout 0 (by kernel_rfl)).trans (by kernel_rfl)
              clear hin hout
              refine Wpv.value (v := .iface 48 (.agg #[])) (w' := wx) ?_ ⟨hb, hz, f0, f1, fun _ => rfl, f3, f4, hl, ho, hn, hf⟩
              clear f0 f1 f2 f3 f4 hl ho hn
              simp only [execOp]; rw [E0]; go_simp
            · intro d u wx hd0 hd hF
              obtain ⟨hb, hz, f0, f1, f2, f3, f4, hl, ho, hn, hf⟩ := hF
              refine Wpv.env fun ρ hin hout hcon hfun => ?_
              have E39 := (hin 39 (by kernel_rfl)).trans (f2 (hd.get (j := 2) (by kernel_rfl)))
              clear hin hout
              refine Wpv.enter (f := 70) (args := #[.agg #[], .int .i64 0]) (w' := wx) (by clear f0 f1 f2 f3 f4 hl ho hn; go_simp) (constant_any 0 wx) ?_
              rintro e' w' ⟨rfl, j1⟩
              exact ⟨_, rfl, ⟨hb.trans (j1.mono (by omega)), Nat.le_trans hz j1.size, f0, f1, f2, fun _ => rfl, f4, hl, fun hq => by obtain ⟨c0, c1, c2, c3⟩ := ho hq; exact ⟨cell_keep j1 c0, cell_keep j1 c1, cell_keep j1 c2, cell_keep j1 c3⟩, fun hq => by obtain ⟨c0, c1, c2, c3⟩ := hn hq; exact ⟨cell_keep j1 c0, cell_keep j1 c1, cell_keep j1 c2, cell_keep j1 c3⟩, hf.keep j1 (by omega)⟩⟩
            · intro d u wx hd0 hd hF
              obtain ⟨hb, hz, f0, f1, f2, f3, f4, hl, ho, hn, hf⟩ := hF
              refine Wpv.env fun ρ hin hout hcon hfun => ?_
              have E37 := (hin 37 (by kernel_rfl)).trans (f0 (hd.get (j := 0) (by kernel_rfl)))
              have E38 := (hin 38 (by kernel_rfl)).trans (f1 (hd.get (j := 1) (by kernel_rfl)))
              have E40 := (hin 40 (by kernel_rfl)).trans (f3 (hd.get (j := 3) (by kernel_rfl)))
              clear hin hout
              refine Wpv.enter (f := 37) (args := #[.iface 48 (.agg #[]), .agg #[.int .i64 h0, .int .i64 h1, .int .i64 h2, .int .i64 h3], .int .i64 0]) (w' := wx) (by clear f0 f1 f2 f3 f4 hl ho hn; go_simp) (mixStep_any h0 h1 h2 h3 0 wx b0 b1 b2 b3 bm) ?_
              rintro e' w' ⟨rfl, j1⟩
              exact ⟨_, rfl, ⟨hb.trans (j1.mono (by omega)), Nat.le_trans hz j1.size, f0, f1, f2, f3, fun _ => rfl, hl, fun hq => by obtain ⟨c0, c1, c2, c3⟩ := ho hq; exact ⟨cell_keep j1 c0, cell_keep j1 c1, cell_keep j1 c2, cell_keep j1 c3⟩, fun hq => by obtain ⟨c0, c1, c2, c3⟩ := hn hq; exact ⟨cell_keep j1 c0, cell_keep j1 c1, cell_keep j1 c2, cell_keep j1 c3⟩, hf.keep j1 (by omega)⟩⟩
            · intro d u wx hd0 hd hF
              obtain ⟨hb, hz, f0, f1, f2, f3, f4, hl, ho, hn, hf⟩ := hF
              refine Wpv.env fun ρ hin hout hcon hfun => ?_
              have E5 : ρ (.tmp 5) = .pointer (some ⟨w5.heap.size, 0, none⟩) := (hout 5 (by kernel_rfl)).trans (by kernel_rfl)
              have E41 := (hin 41 (by kernel_rfl)).trans (f4 (hd.get (j := 4) (by kernel_rfl)))
              clear hin hout
              obtain ⟨c0, c1, c2, c3⟩ := ho hd0
              obtain ⟨q0, q1, q2, q3⟩ := id hf
              refine Wpv.skip (w' := put4 wx w5.heap.size (.int .i64 (stB h0 h1 h2 h3 0)) (.int .i64 (stC h0 h2 h3 0)) (.int .i64 (stD h0 h3 0)) (.int .i64 (stA h0 0))) (by unfold put4; clear f0 f1 f2 f3 f4 hl ho hn; go_simp) ?_
              exact ⟨put4_below hb (by omega) _ _ _ _, by rw [put4_size]; exact hz, f0, f1, f2, f3, f4, fun _ => hd.get (j := 1) (by kernel_rfl), fun hq => by simp [upd] at hq, fun _ => put4_new c0 c1 c2 c3, hf.put _ _ _ _⟩
          · intro d u wc hall hF
            obtain ⟨hb, hz, f0, f1, f2, f3, f4, hl, ho, hn, hf⟩ := hF
            have hcut : Below (w.heap.size + 1) (wr.drew) wc ∧ (wr.drew).heap.size ≤ wc.heap.size ∧ (wc.cell? ⟨w5.heap.size, 0, none⟩ = some (.int .i64 (stB h0 h1 h2 h3 0)) ∧ wc.cell? ⟨w5.heap.size, 1, none⟩ = some (.int .i64 (stC h0 h2 h3 0)) ∧ wc.cell? ⟨w5.heap.size, 2, none⟩ = some (.int .i64 (stD h0 h3 0)) ∧ wc.cell? ⟨w5.heap.size, 3, none⟩ = some (.int .i64 (stA h0 0))) ∧ Free4' wc (w5.heap.size) := ⟨hb, hz, hn (hall 5 (by decide)), hf⟩
            clear f0 f1 f2 f3 f4 hl ho hn hf hb hz hall
            simp only [setF, List.foldl_cons, List.foldl_nil, Act.put, List.setIfInBounds_toArray, List.set_cons_zero, List.set_cons_succ]
            obtain ⟨f7, z7, c7, F7⟩ := hcut
            have M7 : MixBox w5.heap.size wc (zeros (j + 1) (lastM xs)) := by
              have := MixBox.step b0 b1 b2 b3 bm c7 F7
              rw [← HE.out] at this
              exact this
            have k8 : Below w.heap.size w wc := (be.drew).trans (f7.mono (by omega))
            have R7 := R.keep (B := w.heap.size + 1) (((Below.refl _ _).drew).trans f7) (by omega)
            have zc2 : w5.heap.size < wc.heap.size := by omega
            clear Xm0 Xm1 Xm2 Xm3 Xmf F c7 F7 f7 R be zd z7 HE b0 b1 b2 b3 bm
            go_wp2_with fail
            go_roundw
            case rel => exact ⟨j + 1, by omega, by go_num, k8, zc2, M7, R7⟩
            case measure => simp [intOf]; omega
        · obtain rfl : j = 7 := by omega
          obtain ⟨_, _, _, _, er, _, ⟨r0, r1, r2, r3⟩, ⟨q0, q1, q2, q3⟩⟩ := R
          simp only [List.cons.injEq, and_true] at er
          obtain ⟨rfl, rfl, rfl, rfl⟩ := er
          clear F
          go_wp2_with fail
          exact bodyPost_ret (v := .agg #[.int .i64 h0, .int .i64 h1, .int .i64 h2, .int .i64 h3]) (by simp [results, Try.results40, go_sem, r0, r1, r2, r3]) rfl ⟨_, _, _, _, rfl, HE.out, by (repeat (with_reducible first | exact bR _ _ | assumption | refine bD ?_ | refine bN ?_ _ | refine bA ?_ _ | refine bS ?_ _))⟩

set_option maxRecDepth 100000 in
set_option maxHeartbeats 1600000 in
theorem mix_impl (lim : Nat) (v : Value) (xs : List Int) (w : World) (t : Ints lim w v xs) (hlim : lim ≤ w.heap.size) (hlen : xs.length ≤ 4194304) : Calls Try.prog 19 #[v] w (ResN w (mixL xs)) := by
  obtain ⟨a, ca, rfl, la, ba⟩ := t.shape
  have HC := Lib.hid (allBytes_any lim (.slice a xs.length ca) xs w t)
  by_cases hl : xs.length ≤ 8
  case' neg =>
    have e8 : decide (8 < xs.length) = true := decide_eq_true (by omega)
    have HF := Lib.hid (mixL_no (xs := xs) (fun q => hl q.1))
    go_enter Try.func19, Try.ntmps19
    go_wp2_with fail
    go_ret
    exact ResN.nil HF.out (Below.refl _ _)
  have e8 : decide (8 < xs.length) = false := decide_eq_false (by omega)
  by_cases hb : allB xs = true
  case' neg =>
    have hb' : allB xs = false := by simpa using hb
    have HF := Lib.hid (mixL_no (xs := xs) (fun q => hb q.2))
    have HC' := HC.out
    rw [hb'] at HC'
    have HD := Lib.hid HC'
    clear hb hb' HC HC'
    go_enter Try.func19, Try.ntmps19
    go_wp2_with fail
    refine HD.out.mono ?_; rintro e w1 ⟨rfl, f1⟩
    go_wp2_with fail
    go_ret
    exact ResN.nil HF.out f1
  have HF := Lib.hid (mixL_yes hl hb)
  have HQ := Lib.hid (mixM_four hl hb)
  have HM := Lib.hid (fun w (t : Ints lim w (.slice a xs.length ca) xs) (hlim : lim ≤ w.heap.size) => mix_any lim _ xs w t hlim hl hb)
  have HC' := HC.out
  rw [hb] at HC'
  have HD := Lib.hid HC'
  have HT := Lib.hid t
  clear hb HC HC' t
  go_enter Try.func19, Try.ntmps19
  go_wp2_with fail
  refine HD.out.mono ?_; rintro e w1 ⟨rfl, f1⟩
  have z1 := f1.size
  go_wp2_with fail
  refine (HM.out _ (HT.out.keep f1 hlim) (by omega)).mono ?_; rintro e w2 ⟨h0, h1, h2, h3, rfl, eh, f2⟩
  have k2 := f1.trans (f2.mono z1)
  have z2 := f2.size
  obtain ⟨y0, y1, y2, y3, ey, b0, b1, b2, b3⟩ := HQ.out
  rw [eh] at ey
  simp only [List.cons.injEq, and_true] at ey
  obtain ⟨rfl, rfl, rfl, rfl⟩ := ey
  have HE := Lib.hid eh
  clear eh
  go_wp2_with fail
  go_ret
  exact ⟨_, rfl, by (repeat (with_reducible first | exact bR _ _ | assumption | refine bD ?_ | refine bN ?_ _ | refine bA ?_ _ | refine bS ?_ _)), by rw [HF.out, HE.out]; exact Nums.four w2 _ (by omega) b0 b1 b2 b3⟩
end Go.Proofs.Ytldeckiflghpcaa.L
