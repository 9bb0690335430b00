/- Valid systems: the model's SysOk. -/
import Derived.Test.YteekpdlkdpkegaaSpecW
namespace Go.Proofs.Yteekpdlkdpkegaa.L
open Go.RowKit Go.Proofs.Yteekpdlkdpkegaa.S
set_option linter.unusedVariables false
set_option linter.unusedSimpArgs false

set_option maxRecDepth 100000 in
set_option maxHeartbeats 6400000 in
theorem sysOk_spec (o l h vi vo vh vc) (s : SysC) (w : World) (t : SysR o l h w vi vo vh vc s) (hw : h ≤ w.heap.size) (nh : s.hints.length ≤ 1048576) (no : s.outs.length ≤ 1048576) (nc : s.cons.length ≤ 1048576) :
    Calls Try.prog 104 #[.agg #[vi, vo, vh, vc]] w fun e w' => e = .returned (.bool (sysOk s)) ∧ Below w.heap.size w w' := by
  obtain ⟨tO, tH, tC⟩ := t.parts
  obtain ⟨ao, ko, ah, kh, ac, kc, rfl, rfl, rfl, rfl, lo, bo, lh, bh, lc, bc, fi⟩ := t.shape
  clear t
  cases hl : limB s
  · have HR := Lib.hid (sysOk_lim hl)
    have hl' := of_decide_eq_false hl
    unfold varsN at hl'
    have cs : (s.ins < 0) ∨ (0 ≤ s.ins ∧ 100 < s.ins) ∨ (0 ≤ s.ins ∧ s.ins ≤ 100 ∧ 40 < s.outs.length) ∨ (0 ≤ s.ins ∧ s.ins ≤ 100 ∧ s.outs.length ≤ 40 ∧ 3000 < 1 + s.ins + s.hints.length) ∨ (0 ≤ s.ins ∧ s.ins ≤ 100 ∧ s.outs.length ≤ 40 ∧ 1 + s.ins + s.hints.length ≤ 3000 ∧ 4000 < s.cons.length) := by omega
    clear hl hl'
    rcases cs with h1 | ⟨h1, h2⟩ | ⟨h1, h2, h3⟩ | ⟨h1, h2, h3, h4⟩ | ⟨h1, h2, h3, h4, h5⟩
    · go_enter Try.func104, Try.ntmps104
      go_wp2_with fail
      go_ret
      exact ⟨ret_bool HR.out.symm, by (repeat (first | with_reducible exact Below.refl _ _ | with_reducible assumption | with_reducible refine Below.drew ?_ | with_reducible refine bdrewN ?_ _ | ((with_reducible refine balloc ?_ ?_ _); (focus (first | with_reducible exact Nat.le_refl _ | (simp; done) | omega | (simp; omega) | exact Nat.le_refl _))) | ((with_reducible refine bset ?_ ?_ _); (focus (first | with_reducible exact Nat.le_refl _ | (simp; done) | omega | (simp; omega) | exact Nat.le_refl _)))))⟩
    · go_enter Try.func104, Try.ntmps104
      go_wp2_with fail
      go_ret
      exact ⟨ret_bool HR.out.symm, by (repeat (first | with_reducible exact Below.refl _ _ | with_reducible assumption | with_reducible refine Below.drew ?_ | with_reducible refine bdrewN ?_ _ | ((with_reducible refine balloc ?_ ?_ _); (focus (first | with_reducible exact Nat.le_refl _ | (simp; done) | omega | (simp; omega) | exact Nat.le_refl _))) | ((with_reducible refine bset ?_ ?_ _); (focus (first | with_reducible exact Nat.le_refl _ | (simp; done) | omega | (simp; omega) | exact Nat.le_refl _)))))⟩
    · go_enter Try.func104, Try.ntmps104
      go_wp2_with fail
      go_ret
      exact ⟨ret_bool HR.out.symm, by (repeat (first | with_reducible exact Below.refl _ _ | with_reducible assumption | with_reducible refine Below.drew ?_ | with_reducible refine bdrewN ?_ _ | ((with_reducible refine balloc ?_ ?_ _); (focus (first | with_reducible exact Nat.le_refl _ | (simp; done) | omega | (simp; omega) | exact Nat.le_refl _))) | ((with_reducible refine bset ?_ ?_ _); (focus (first | with_reducible exact Nat.le_refl _ | (simp; done) | omega | (simp; omega) | exact Nat.le_refl _)))))⟩
    · go_enter Try.func104, Try.ntmps104
      go_wp2_with fail
      refine name_call fun w1 hw1 => ?_
      have b1 : Below w.heap.size w w1 := by rw [hw1]; (repeat (first | with_reducible exact Below.refl _ _ | with_reducible assumption | with_reducible refine Below.drew ?_ | with_reducible refine bdrewN ?_ _ | ((with_reducible refine balloc ?_ ?_ _); (focus (first | with_reducible exact Nat.le_refl _ | (simp; done) | omega | (simp; omega) | exact Nat.le_refl _))) | ((with_reducible refine bset ?_ ?_ _); (focus (first | with_reducible exact Nat.le_refl _ | (simp; done) | omega | (simp; omega) | exact Nat.le_refl _)))))
      have z1 : w.heap.size + 1 ≤ w1.heap.size := by rw [hw1]; simp
      have cI1 : w1.cell? ⟨w.heap.size, 0, none⟩ = some (.int .i64 s.ins) := by rw [hw1]; first | (simp; done) | go_simp
      have cO1 : w1.cell? ⟨w.heap.size, 1, none⟩ = some (.slice ao s.outs.length ko) := by rw [hw1]; first | (simp; done) | go_simp
      have cH1 : w1.cell? ⟨w.heap.size, 2, none⟩ = some (.slice ah s.hints.length kh) := by rw [hw1]; first | (simp; done) | go_simp
      have cC1 : w1.cell? ⟨w.heap.size, 3, none⟩ = some (.slice ac s.cons.length kc) := by rw [hw1]; first | (simp; done) | go_simp
      clear hw1
      refine (l3vars_any s ao ko ah kh ac kc _ h1 h2 nh).mono ?_; rintro e w2 ⟨rfl, f2⟩
      have b2 := b1.trans (f2.mono (by omega))
      have z2 := f2.size
      have cI2 := cell_keep f2 cI1
      have cO2 := cell_keep f2 cO1
      have cH2 := cell_keep f2 cH1
      have cC2 := cell_keep f2 cC1
      clear cI1 cO1 cH1 cC1
      go_wp2_with fail
      go_ret
      exact ⟨ret_bool HR.out.symm, b2⟩
    · go_enter Try.func104, Try.ntmps104
      go_wp2_with fail
      refine name_call fun w1 hw1 => ?_
      have b1 : Below w.heap.size w w1 := by rw [hw1]; (repeat (first | with_reducible exact Below.refl _ _ | with_reducible assumption | with_reducible refine Below.drew ?_ | with_reducible refine bdrewN ?_ _ | ((with_reducible refine balloc ?_ ?_ _); (focus (first | with_reducible exact Nat.le_refl _ | (simp; done) | omega | (simp; omega) | exact Nat.le_refl _))) | ((with_reducible refine bset ?_ ?_ _); (focus (first | with_reducible exact Nat.le_refl _ | (simp; done) | omega | (simp; omega) | exact Nat.le_refl _)))))
      have z1 : w.heap.size + 1 ≤ w1.heap.size := by rw [hw1]; simp
      have cI1 : w1.cell? ⟨w.heap.size, 0, none⟩ = some (.int .i64 s.ins) := by rw [hw1]; first | (simp; done) | go_simp
      have cO1 : w1.cell? ⟨w.heap.size, 1, none⟩ = some (.slice ao s.outs.length ko) := by rw [hw1]; first | (simp; done) | go_simp
      have cH1 : w1.cell? ⟨w.heap.size, 2, none⟩ = some (.slice ah s.hints.length kh) := by rw [hw1]; first | (simp; done) | go_simp
      have cC1 : w1.cell? ⟨w.heap.size, 3, none⟩ = some (.slice ac s.cons.length kc) := by rw [hw1]; first | (simp; done) | go_simp
      clear hw1
      refine (l3vars_any s ao ko ah kh ac kc _ h1 h2 nh).mono ?_; rintro e w2 ⟨rfl, f2⟩
      have b2 := b1.trans (f2.mono (by omega))
      have z2 := f2.size
      have cI2 := cell_keep f2 cI1
      have cO2 := cell_keep f2 cO1
      have cH2 := cell_keep f2 cH1
      have cC2 := cell_keep f2 cC1
      clear cI1 cO1 cH1 cC1
      go_wp2_with fail
      go_ret
      exact ⟨ret_bool HR.out.symm, b2⟩
  obtain ⟨h1, h2, h3, h4, h5⟩ := limB_facts hl
  go_enter Try.func104, Try.ntmps104
  go_wp2_with fail
  refine name_call fun w1 hw1 => ?_
  have b1 : Below w.heap.size w w1 := by rw [hw1]; (repeat (first | with_reducible exact Below.refl _ _ | with_reducible assumption | with_reducible refine Below.drew ?_ | with_reducible refine bdrewN ?_ _ | ((with_reducible refine balloc ?_ ?_ _); (focus (first | with_reducible exact Nat.le_refl _ | (simp; done) | omega | (simp; omega) | exact Nat.le_refl _))) | ((with_reducible refine bset ?_ ?_ _); (focus (first | with_reducible exact Nat.le_refl _ | (simp; done) | omega | (simp; omega) | exact Nat.le_refl _)))))
  have z1 : w.heap.size + 1 ≤ w1.heap.size := by rw [hw1]; simp
  have cI1 : w1.cell? ⟨w.heap.size, 0, none⟩ = some (.int .i64 s.ins) := by rw [hw1]; first | (simp; done) | go_simp
  have cO1 : w1.cell? ⟨w.heap.size, 1, none⟩ = some (.slice ao s.outs.length ko) := by rw [hw1]; first | (simp; done) | go_simp
  have cH1 : w1.cell? ⟨w.heap.size, 2, none⟩ = some (.slice ah s.hints.length kh) := by rw [hw1]; first | (simp; done) | go_simp
  have cC1 : w1.cell? ⟨w.heap.size, 3, none⟩ = some (.slice ac s.cons.length kc) := by rw [hw1]; first | (simp; done) | go_simp
  clear hw1
  refine (l3vars_any s ao ko ah kh ac kc _ h1 h2 nh).mono ?_; rintro e w2 ⟨rfl, f2⟩
  have b2 := b1.trans (f2.mono (by omega))
  have z2 := f2.size
  have cI2 := cell_keep f2 cI1
  have cO2 := cell_keep f2 cO1
  have cH2 := cell_keep f2 cH1
  have cC2 := cell_keep f2 cC1
  clear cI1 cO1 cH1 cC1
  go_wp2_with fail
  go_loopw [3] (fun i wr => ∃ k : Nat, k ≤ s.hints.length ∧ i = .int .i64 k ∧ Below w.heap.size w wr ∧ w.heap.size < wr.heap.size ∧ wr.cell? ⟨w.heap.size, 0, none⟩ = some (.int .i64 s.ins) ∧ wr.cell? ⟨w.heap.size, 1, none⟩ = some (.slice ao s.outs.length ko) ∧ wr.cell? ⟨w.heap.size, 2, none⟩ = some (.slice ah s.hints.length kh) ∧ wr.cell? ⟨w.heap.size, 3, none⟩ = some (.slice ac s.cons.length kc) ∧ hintsB (1 + s.ins + k) (s.hints.drop k) = hintsB (1 + s.ins) s.hints) (fun i _ => s.hints.length - (intOf i).toNat)
  case atStart => exact ⟨0, Nat.zero_le _, rfl, b2, by omega, cI2, cO2, cH2, cC2, by simp⟩
  case round =>
    clear cI2 cO2 cH2 cC2
    obtain ⟨k, hk, rfl, be, zz, cI, cO, cH, cC, hq⟩ := hrel
    have HQ := Lib.hid hq
    clear hq
    by_cases hlt : k < s.hints.length
    · obtain ⟨b, off, va, vb, rfl, l1, m1, c0, c1, c2, c3, f0, f3, ta, tb⟩ := (tH.keep be hw).at hlt
      obtain ⟨x, kx, rfl, lx, bx⟩ := ta.shape
      obtain ⟨y, ky, rfl, ly, by'⟩ := tb.shape
      have n0 : 0 ≤ 1 + s.ins + (k : Int) := by omega
      have n1 : 1 + s.ins + (k : Int) ≤ 3100 := by omega
      have e0 : 0 ≤ 1 + s.ins := by omega
      have i1 : IntKind.i64.wrap (1 + s.ins) = 1 + s.ins := IntWalk.i64_in _ (by omega)
      have i2 : IntKind.i64.wrap (1 + s.ins + (k : Int)) = 1 + s.ins + (k : Int) := IntWalk.i64_in _ (by omega)
      have bl : b < wr.heap.size := World.block_lt_of_cell? _ _ c0
      cases hh : hintW (1 + s.ins + k) s.hints[k]
      · have E := Lib.hid (sysOk_hints (HQ.out.symm.trans (hintsB_stop hlt hh)))
        have HH := Lib.hid hh
        clear hh HQ
        go_wp2_with fail
        have dp : Below wr.heap.size wr wr.drew := (Below.refl _ _).drew
        have zdp : wr.heap.size ≤ wr.drew.heap.size := Nat.le_refl _
        have zep : wr.drew.heap.size ≤ wr.heap.size := Nat.le_refl _
        have gI : wr.drew.cell? ⟨w.heap.size, 0, none⟩ = some (.int .i64 s.ins) := cell_keep dp cI
        have gO : wr.drew.cell? ⟨w.heap.size, 1, none⟩ = some (.slice ao s.outs.length ko) := cell_keep dp cO
        have gH : wr.drew.cell? ⟨w.heap.size, 2, none⟩ = some (.slice (some ⟨b, off, none⟩) s.hints.length kh) := cell_keep dp cH
        have gC : wr.drew.cell? ⟨w.heap.size, 3, none⟩ = some (.slice ac s.cons.length kc) := cell_keep dp cC
        have g0 : wr.drew.cell? ⟨b, off + k * 4, none⟩ = some (.int .i64 s.hints[k].kind) := cell_keep dp c0
        have g1 : wr.drew.cell? ⟨b, off + k * 4 + 1, none⟩ = some (.slice x s.hints[k].a.length kx) := cell_keep dp c1
        have g2 : wr.drew.cell? ⟨b, off + k * 4 + 2, none⟩ = some (.slice y s.hints[k].b.length ky) := cell_keep dp c2
        have g3 : wr.drew.cell? ⟨b, off + k * 4 + 3, none⟩ = some (.int .i64 s.hints[k].k) := cell_keep dp c3
        have uA := ta.keep dp (by omega)
        have uB := tb.keep dp (by omega)
        go_region_held3 (fun w' => w'.cell? ⟨w.heap.size, 0, none⟩ = some (.int .i64 s.ins) ∧ w'.cell? ⟨w.heap.size, 1, none⟩ = some (.slice ao s.outs.length ko) ∧ w'.cell? ⟨w.heap.size, 2, none⟩ = some (.slice (some ⟨b, off, none⟩) s.hints.length kh) ∧ w'.cell? ⟨w.heap.size, 3, none⟩ = some (.slice ac s.cons.length kc) ∧ w'.cell? ⟨b, off + k * 4, none⟩ = some (.int .i64 s.hints[k].kind) ∧ w'.cell? ⟨b, off + k * 4 + 1, none⟩ = some (.slice x s.hints[k].a.length kx) ∧ w'.cell? ⟨b, off + k * 4 + 2, none⟩ = some (.slice y s.hints[k].b.length ky) ∧ w'.cell? ⟨b, off + k * 4 + 3, none⟩ = some (.int .i64 s.hints[k].k)) (first | exact ⟨gI, gO, gH, gC, g0, g1, g2, g3⟩ | exact ⟨cell_keep j1 gI, cell_keep j1 gO, cell_keep j1 gH, cell_keep j1 gC, cell_keep j1 g0, cell_keep j1 g1, cell_keep j1 g2, cell_keep j1 g3⟩)
          (first
            | (go_at_call 137; refine (l3hint_any o l h _ _ s.hints[k] (1 + s.ins + k) wr.drew uA uB f3 (by omega) n0 (by omega)).mono ?_; rw [HH.out]; rintro e v1 ⟨rfl, j1⟩))
        have s1 := j1.size
        have bz : Below w.heap.size w v1 := ((be.trans (dp.mono (by omega))).trans (j1.mono (by omega)))
        have kI := cell_keep j1 (gI)
        have kO := cell_keep j1 (gO)
        have kH := cell_keep j1 (gH)
        have kC := cell_keep j1 (gC)
        clear gI gO gH gC g0 g1 g2 g3 uA uB
        clear i1 i2
        go_wp2_with fail
        go_ret
        exact ⟨ret_bool E.out.symm, bz⟩
      have E := Lib.hid ((hintsB_step hlt hh).symm.trans HQ.out)
      have HH := Lib.hid hh
      clear hh HQ
      go_wp2_with fail
      have dq : Below wr.heap.size wr wr.drew := (Below.refl _ _).drew
      have zdq : wr.heap.size ≤ wr.drew.heap.size := Nat.le_refl _
      have zeq : wr.drew.heap.size ≤ wr.heap.size := Nat.le_refl _
      have gI : wr.drew.cell? ⟨w.heap.size, 0, none⟩ = some (.int .i64 s.ins) := cell_keep dq cI
      have gO : wr.drew.cell? ⟨w.heap.size, 1, none⟩ = some (.slice ao s.outs.length ko) := cell_keep dq cO
      have gH : wr.drew.cell? ⟨w.heap.size, 2, none⟩ = some (.slice (some ⟨b, off, none⟩) s.hints.length kh) := cell_keep dq cH
      have gC : wr.drew.cell? ⟨w.heap.size, 3, none⟩ = some (.slice ac s.cons.length kc) := cell_keep dq cC
      have g0 : wr.drew.cell? ⟨b, off + k * 4, none⟩ = some (.int .i64 s.hints[k].kind) := cell_keep dq c0
      have g1 : wr.drew.cell? ⟨b, off + k * 4 + 1, none⟩ = some (.slice x s.hints[k].a.length kx) := cell_keep dq c1
      have g2 : wr.drew.cell? ⟨b, off + k * 4 + 2, none⟩ = some (.slice y s.hints[k].b.length ky) := cell_keep dq c2
      have g3 : wr.drew.cell? ⟨b, off + k * 4 + 3, none⟩ = some (.int .i64 s.hints[k].k) := cell_keep dq c3
      have uA := ta.keep dq (by omega)
      have uB := tb.keep dq (by omega)
      go_region_held3 (fun w' => w'.cell? ⟨w.heap.size, 0, none⟩ = some (.int .i64 s.ins) ∧ w'.cell? ⟨w.heap.size, 1, none⟩ = some (.slice ao s.outs.length ko) ∧ w'.cell? ⟨w.heap.size, 2, none⟩ = some (.slice (some ⟨b, off, none⟩) s.hints.length kh) ∧ w'.cell? ⟨w.heap.size, 3, none⟩ = some (.slice ac s.cons.length kc) ∧ w'.cell? ⟨b, off + k * 4, none⟩ = some (.int .i64 s.hints[k].kind) ∧ w'.cell? ⟨b, off + k * 4 + 1, none⟩ = some (.slice x s.hints[k].a.length kx) ∧ w'.cell? ⟨b, off + k * 4 + 2, none⟩ = some (.slice y s.hints[k].b.length ky) ∧ w'.cell? ⟨b, off + k * 4 + 3, none⟩ = some (.int .i64 s.hints[k].k)) (first | exact ⟨gI, gO, gH, gC, g0, g1, g2, g3⟩ | exact ⟨cell_keep j1 gI, cell_keep j1 gO, cell_keep j1 gH, cell_keep j1 gC, cell_keep j1 g0, cell_keep j1 g1, cell_keep j1 g2, cell_keep j1 g3⟩)
        (first
          | (go_at_call 137; refine (l3hint_any o l h _ _ s.hints[k] (1 + s.ins + k) wr.drew uA uB f3 (by omega) n0 (by omega)).mono ?_; rw [HH.out]; rintro e v1 ⟨rfl, j1⟩))
      have s1 := j1.size
      have bz : Below w.heap.size w v1 := ((be.trans (dq.mono (by omega))).trans (j1.mono (by omega)))
      have kI := cell_keep j1 (gI)
      have kO := cell_keep j1 (gO)
      have kH := cell_keep j1 (gH)
      have kC := cell_keep j1 (gC)
      clear gI gO gH gC g0 g1 g2 g3 uA uB
      clear i1 i2
      go_wp2_with fail
      go_roundw
      case rel => exact ⟨k + 1, by omega, by go_num, bz, by omega, kI, kO, kH, kC, E.out⟩
      case measure => simp [intOf]; omega
    · have HB : Hid (hintsB (1 + s.ins) s.hints = true) := Lib.hid (by rw [← HQ.out, List.drop_eq_nil_of_le (by omega)]; rfl)
      clear HQ
      go_wp2_with fail
      go_loopw [4] (fun i wr => ∃ k : Nat, k ≤ s.outs.length ∧ i = .int .i64 k ∧ Below w.heap.size w wr ∧ w.heap.size < wr.heap.size ∧ wr.cell? ⟨w.heap.size, 0, none⟩ = some (.int .i64 s.ins) ∧ wr.cell? ⟨w.heap.size, 1, none⟩ = some (.slice ao s.outs.length ko) ∧ wr.cell? ⟨w.heap.size, 2, none⟩ = some (.slice ah s.hints.length kh) ∧ wr.cell? ⟨w.heap.size, 3, none⟩ = some (.slice ac s.cons.length kc) ∧ (s.outs.drop k).all (linW (varsN s)) = s.outs.all (linW (varsN s))) (fun i _ => s.outs.length - (intOf i).toNat)
      case atStart => exact ⟨0, Nat.zero_le _, rfl, be, by omega, cI, cO, cH, cC, rfl⟩
      case round =>
        clear cI cO cH cC
        obtain ⟨k, hk, rfl, be, zz, cI, cO, cH, cC, hq⟩ := hrel
        have HQ := Lib.hid hq
        clear hq
        by_cases hlt : k < s.outs.length
        · obtain ⟨b, off, va, rfl, l1, m1, c0, ta⟩ := (tO.keep be hw).at hlt
          obtain ⟨x, kx, rfl, lx, bx⟩ := ta.shape
          have bl : b < wr.heap.size := World.block_lt_of_cell? _ _ c0
          have w0 : 0 ≤ 1 + s.ins + (s.hints.length : Int) := by omega
          cases hk1 : linOk s.outs[k]
          · have E := Lib.hid (sysOk_outs (HQ.out.symm.trans (all_stop hlt (linW_no hk1))))
            have HK1 := Lib.hid hk1
            clear hk1 HQ
            go_wp2_with fail
            have dp2 : Below wr.heap.size wr wr.drew := (Below.refl _ _).drew
            have zdp2 : wr.heap.size ≤ wr.drew.heap.size := Nat.le_refl _
            have zep2 : wr.drew.heap.size ≤ wr.heap.size := Nat.le_refl _
            have gI : wr.drew.cell? ⟨w.heap.size, 0, none⟩ = some (.int .i64 s.ins) := cell_keep dp2 cI
            have gO : wr.drew.cell? ⟨w.heap.size, 1, none⟩ = some (.slice (some ⟨b, off, none⟩) s.outs.length ko) := cell_keep dp2 cO
            have gH : wr.drew.cell? ⟨w.heap.size, 2, none⟩ = some (.slice ah s.hints.length kh) := cell_keep dp2 cH
            have gC : wr.drew.cell? ⟨w.heap.size, 3, none⟩ = some (.slice ac s.cons.length kc) := cell_keep dp2 cC
            have g0 : wr.drew.cell? ⟨b, off + k, none⟩ = some (.slice x s.outs[k].length kx) := cell_keep dp2 c0
            have uA := ta.keep dp2 (by omega)
            refine wp_region_held_drew (S := fun w' => w'.cell? ⟨w.heap.size, 0, none⟩ = some (.int .i64 s.ins) ∧ w'.cell? ⟨w.heap.size, 1, none⟩ = some (.slice (some ⟨b, off, none⟩) s.outs.length ko) ∧ w'.cell? ⟨w.heap.size, 2, none⟩ = some (.slice ah s.hints.length kh) ∧ w'.cell? ⟨w.heap.size, 3, none⟩ = some (.slice ac s.cons.length kc) ∧ w'.cell? ⟨b, off + k, none⟩ = some (.slice x s.outs[k].length kx)) (by kernel_rfl) ⟨gI, gO, gH, gC, g0⟩ (fun hHeld => ?_)
            refine wpAnyH_take (i := 0) rfl (by kernel_rfl) (by kernel_rfl) (by kernel_rfl) (fun _ _ _ h => h) (v := ?_) (Or.inl ⟨by rfl, ?_⟩) (by assumption) ?_
            case refine_2 => (intro w hSw; (try dsimp only at hSw); go_simp; (try with_reducible rfl))
            try simp only [Act.put, List.setIfInBounds_toArray, List.set_cons_zero, List.set_cons_succ, List.getElem_toArray, List.getElem_cons_succ, List.getElem_cons_zero]
            refine wpAnyH_take (i := 1) rfl (by kernel_rfl) (by kernel_rfl) (by kernel_rfl) (fun _ _ _ h => h) (v := ?_) (Or.inl ⟨by rfl, ?_⟩) (by assumption) ?_
            case refine_2 => (intro w hSw; (try dsimp only at hSw); go_simp; (try with_reducible rfl))
            try simp only [Act.put, List.setIfInBounds_toArray, List.set_cons_zero, List.set_cons_succ, List.getElem_toArray, List.getElem_cons_succ, List.getElem_cons_zero]
            refine wpAnyH_take (i := 2) rfl (by kernel_rfl) (by kernel_rfl) (by kernel_rfl) (fun _ _ _ h => h) (v := ?_) (Or.inl ⟨by rfl, ?_⟩) (by assumption) ?_
            case refine_2 => (intro w hSw; (try dsimp only at hSw); go_simp; (try with_reducible rfl))
            try simp only [Act.put, List.setIfInBounds_toArray, List.set_cons_zero, List.set_cons_succ, List.getElem_toArray, List.getElem_cons_succ, List.getElem_cons_zero]
            refine wpAnyH_take (i := 3) rfl (by kernel_rfl) (by kernel_rfl) (by kernel_rfl) (fun _ _ _ h => h) (v := ?_) (Or.inl ⟨by rfl, ?_⟩) (by assumption) ?_
            case refine_2 => (intro w hSw; (try dsimp only at hSw); go_simp; (try with_reducible rfl))
            try simp only [Act.put, List.setIfInBounds_toArray, List.set_cons_zero, List.set_cons_succ, List.getElem_toArray, List.getElem_cons_succ, List.getElem_cons_zero]
            refine wpAnyH_take (i := 4) rfl (by kernel_rfl) (by kernel_rfl) (by kernel_rfl) (fun _ _ _ h => h) (v := ?_) (Or.inl ⟨by rfl, ?_⟩) (by assumption) ?_
            case refine_2 => (intro w hSw; (try dsimp only at hSw); go_simp; (try with_reducible rfl))
            try simp only [Act.put, List.setIfInBounds_toArray, List.set_cons_zero, List.set_cons_succ, List.getElem_toArray, List.getElem_cons_succ, List.getElem_cons_zero]
            refine wpAnyH_ready (rs := [5]) (by kernel_rfl) (by simp) ?_
            refine AllReadyH.cons rfl (fun K hK => ?_) AllReadyH.nil
            go_simp
            go_at_call 94; refine (lok_spec o l h _ s.outs[k] wr.drew uA (by omega) _ HK1.out).mono ?_; rintro e v1 ⟨rfl, j1⟩
            refine hK.out _ _ ⟨cell_keep j1 gI, cell_keep j1 gO, cell_keep j1 gH, cell_keep j1 gC, cell_keep j1 g0⟩ (fun hHeld => ?_)
            clear hK K
            try simp only [Act.put, List.setIfInBounds_toArray, List.set_cons_zero, List.set_cons_succ]
            refine wpAnyH_take (i := 6) rfl (by kernel_rfl) (by kernel_rfl) (by kernel_rfl) (fun _ _ _ h => h) (v := ?_) (Or.inl ⟨by rfl, ?_⟩) (by assumption) ?_
            case refine_2 => (intro w hSw; (try dsimp only at hSw); go_simp; (try with_reducible rfl))
            try simp only [Act.put, List.setIfInBounds_toArray, List.set_cons_zero, List.set_cons_succ, List.getElem_toArray, List.getElem_cons_succ, List.getElem_cons_zero]
            refine wpAnyH_take (i := 7) rfl (by kernel_rfl) (by kernel_rfl) (by kernel_rfl) (fun _ _ _ h => h) (v := ?_) (Or.inl ⟨by rfl, ?_⟩) (by assumption) ?_
            case refine_2 => (intro w hSw; (try dsimp only at hSw); go_simp; (try with_reducible rfl))
            try simp only [Act.put, List.setIfInBounds_toArray, List.set_cons_zero, List.set_cons_succ, List.getElem_toArray, List.getElem_cons_succ, List.getElem_cons_zero]
            refine wpAnyH_take (i := 8) rfl (by kernel_rfl) (by kernel_rfl) (by kernel_rfl) (fun _ _ _ h => h) (Or.inr ⟨by rfl, rfl⟩) (by assumption) ?_
            try simp only [Act.put, List.setIfInBounds_toArray, List.set_cons_zero, List.set_cons_succ, List.getElem_toArray, List.getElem_cons_succ, List.getElem_cons_zero]
            refine wpAnyH_take (i := 9) rfl (by kernel_rfl) (by kernel_rfl) (by kernel_rfl) (fun _ _ _ h => h) (Or.inr ⟨by rfl, rfl⟩) (by assumption) ?_
            try simp only [Act.put, List.setIfInBounds_toArray, List.set_cons_zero, List.set_cons_succ, List.getElem_toArray, List.getElem_cons_succ, List.getElem_cons_zero]
            refine wpAnyH_take (i := 10) rfl (by kernel_rfl) (by kernel_rfl) (by kernel_rfl) (fun _ _ _ h => h) (Or.inr ⟨by rfl, rfl⟩) (by assumption) ?_
            try simp only [Act.put, List.setIfInBounds_toArray, List.set_cons_zero, List.set_cons_succ, List.getElem_toArray, List.getElem_cons_succ, List.getElem_cons_zero]
            refine wpAnyH_take (i := 11) rfl (by kernel_rfl) (by kernel_rfl) (by kernel_rfl) (fun _ _ _ h => h) (Or.inr ⟨by rfl, rfl⟩) (by assumption) ?_
            try simp only [Act.put, List.setIfInBounds_toArray, List.set_cons_zero, List.set_cons_succ, List.getElem_toArray, List.getElem_cons_succ, List.getElem_cons_zero]
            refine wpAnyH_take (i := 12) rfl (by kernel_rfl) (by kernel_rfl) (by kernel_rfl) (fun _ _ _ h => h) (Or.inr ⟨by rfl, rfl⟩) (by assumption) ?_
            try simp only [Act.put, List.setIfInBounds_toArray, List.set_cons_zero, List.set_cons_succ, List.getElem_toArray, List.getElem_cons_succ, List.getElem_cons_zero]
            refine wpAnyH_take (i := 13) rfl (by kernel_rfl) (by kernel_rfl) (by kernel_rfl) (fun _ _ _ h => h) (Or.inr ⟨by rfl, rfl⟩) (by assumption) ?_
            try simp only [Act.put, List.setIfInBounds_toArray, List.set_cons_zero, List.set_cons_succ, List.getElem_toArray, List.getElem_cons_succ, List.getElem_cons_zero]
            refine wpAnyH_take (i := 14) rfl (by kernel_rfl) (by kernel_rfl) (by kernel_rfl) (fun _ _ _ h => h) (Or.inr ⟨by rfl, rfl⟩) (by assumption) ?_
            try simp only [Act.put, List.setIfInBounds_toArray, List.set_cons_zero, List.set_cons_succ, List.getElem_toArray, List.getElem_cons_succ, List.getElem_cons_zero]
            refine wpAnyH_take (i := 15) rfl (by kernel_rfl) (by kernel_rfl) (by kernel_rfl) (fun _ _ _ h => h) (Or.inr ⟨by rfl, rfl⟩) (by assumption) ?_
            try simp only [Act.put, List.setIfInBounds_toArray, List.set_cons_zero, List.set_cons_succ, List.getElem_toArray, List.getElem_cons_succ, List.getElem_cons_zero]
            refine wpAnyH_take (i := 16) rfl (by kernel_rfl) (by kernel_rfl) (by kernel_rfl) (fun _ _ _ h => h) (Or.inr ⟨by rfl, rfl⟩) (by assumption) ?_
            try simp only [Act.put, List.setIfInBounds_toArray, List.set_cons_zero, List.set_cons_succ, List.getElem_toArray, List.getElem_cons_succ, List.getElem_cons_zero]
            refine wpAnyH_take (i := 17) rfl (by kernel_rfl) (by kernel_rfl) (by kernel_rfl) (fun _ _ _ h => h) (v := ?_) (Or.inl ⟨by rfl, ?_⟩) (by assumption) ?_
            case refine_2 => (intro w hSw; (try dsimp only at hSw); go_simp; (try with_reducible rfl))
            try simp only [Act.put, List.setIfInBounds_toArray, List.set_cons_zero, List.set_cons_succ, List.getElem_toArray, List.getElem_cons_succ, List.getElem_cons_zero]
            refine wpAnyH_done (by kernel_rfl) ?_ _
            have s1 := j1.size
            have bz : Below w.heap.size w v1 := ((be.trans (dp2.mono (by omega))).trans (j1.mono (by omega)))
            go_wp2_with fail
            go_ret
            exact ⟨ret_bool E.out.symm, bz⟩
          cases hh : linW (varsN s) s.outs[k]
          · have E := Lib.hid (sysOk_outs (HQ.out.symm.trans (all_stop hlt hh)))
            have HK1 := Lib.hid hk1
            have HH : Hid (linW (1 + s.ins + s.hints.length) s.outs[k] = false) := Lib.hid hh
            clear hk1 hh HQ
            go_wp2_with fail
            have dp3 : Below wr.heap.size wr wr.drew := (Below.refl _ _).drew
            have zdp3 : wr.heap.size ≤ wr.drew.heap.size := Nat.le_refl _
            have zep3 : wr.drew.heap.size ≤ wr.heap.size := Nat.le_refl _
            have gI : wr.drew.cell? ⟨w.heap.size, 0, none⟩ = some (.int .i64 s.ins) := cell_keep dp3 cI
            have gO : wr.drew.cell? ⟨w.heap.size, 1, none⟩ = some (.slice (some ⟨b, off, none⟩) s.outs.length ko) := cell_keep dp3 cO
            have gH : wr.drew.cell? ⟨w.heap.size, 2, none⟩ = some (.slice ah s.hints.length kh) := cell_keep dp3 cH
            have gC : wr.drew.cell? ⟨w.heap.size, 3, none⟩ = some (.slice ac s.cons.length kc) := cell_keep dp3 cC
            have g0 : wr.drew.cell? ⟨b, off + k, none⟩ = some (.slice x s.outs[k].length kx) := cell_keep dp3 c0
            have uA := ta.keep dp3 (by omega)
            go_region_held3 (fun w' => w'.cell? ⟨w.heap.size, 0, none⟩ = some (.int .i64 s.ins) ∧ w'.cell? ⟨w.heap.size, 1, none⟩ = some (.slice (some ⟨b, off, none⟩) s.outs.length ko) ∧ w'.cell? ⟨w.heap.size, 2, none⟩ = some (.slice ah s.hints.length kh) ∧ w'.cell? ⟨w.heap.size, 3, none⟩ = some (.slice ac s.cons.length kc) ∧ w'.cell? ⟨b, off + k, none⟩ = some (.slice x s.outs[k].length kx)) (first | exact ⟨gI, gO, gH, gC, g0⟩ | exact ⟨cell_keep j1 gI, cell_keep j1 gO, cell_keep j1 gH, cell_keep j1 gC, cell_keep j1 g0⟩ | exact ⟨cell_keep j2 (cell_keep j1 gI), cell_keep j2 (cell_keep j1 gO), cell_keep j2 (cell_keep j1 gH), cell_keep j2 (cell_keep j1 gC), cell_keep j2 (cell_keep j1 g0)⟩ | exact ⟨cell_keep j3 (cell_keep j2 (cell_keep j1 gI)), cell_keep j3 (cell_keep j2 (cell_keep j1 gO)), cell_keep j3 (cell_keep j2 (cell_keep j1 gH)), cell_keep j3 (cell_keep j2 (cell_keep j1 gC)), cell_keep j3 (cell_keep j2 (cell_keep j1 g0))⟩)
              (first
                | (go_at_call 94; refine (lok_spec o l h _ s.outs[k] wr.drew uA (by omega) _ HK1.out).mono ?_; rintro e v1 ⟨rfl, j1⟩; have s1 := j1.size)
                | (go_at_call 111; refine (l3vars_any s _ _ _ _ _ _ v1 h1 h2 nh).mono ?_; rintro e v2 ⟨rfl, j2⟩; have s2 := j2.size)
                | (go_at_call 110; refine (l2w_any o l h _ s.outs[k] (1 + s.ins + s.hints.length) v2 ((uA.keep j1 (by omega)).keep j2 (by omega)) (by omega) w0 (by omega) HK1.out _ HH.out).mono ?_; rintro e v3 ⟨rfl, j3⟩))
            have s1 := j1.size
            have s2 := j2.size
            have s3 := j3.size
            have bz : Below w.heap.size w v3 := ((((be.trans (dp3.mono (by omega))).trans (j1.mono (by omega))).trans (j2.mono (by omega))).trans (j3.mono (by omega)))
            have kI := cell_keep j3 (cell_keep j2 (cell_keep j1 (gI)))
            have kO := cell_keep j3 (cell_keep j2 (cell_keep j1 (gO)))
            have kH := cell_keep j3 (cell_keep j2 (cell_keep j1 (gH)))
            have kC := cell_keep j3 (cell_keep j2 (cell_keep j1 (gC)))
            clear gI gO gH gC g0 uA
            go_wp2_with fail
            go_ret
            exact ⟨ret_bool E.out.symm, bz⟩
          have E := Lib.hid ((all_step hlt hh).symm.trans HQ.out)
          have HK1 := Lib.hid hk1
          have HH : Hid (linW (1 + s.ins + s.hints.length) s.outs[k] = true) := Lib.hid hh
          clear hk1 hh HQ
          go_wp2_with fail
          have dq3 : Below wr.heap.size wr wr.drew := (Below.refl _ _).drew
          have zdq3 : wr.heap.size ≤ wr.drew.heap.size := Nat.le_refl _
          have zeq3 : wr.drew.heap.size ≤ wr.heap.size := Nat.le_refl _
          have gI : wr.drew.cell? ⟨w.heap.size, 0, none⟩ = some (.int .i64 s.ins) := cell_keep dq3 cI
          have gO : wr.drew.cell? ⟨w.heap.size, 1, none⟩ = some (.slice (some ⟨b, off, none⟩) s.outs.length ko) := cell_keep dq3 cO
          have gH : wr.drew.cell? ⟨w.heap.size, 2, none⟩ = some (.slice ah s.hints.length kh) := cell_keep dq3 cH
          have gC : wr.drew.cell? ⟨w.heap.size, 3, none⟩ = some (.slice ac s.cons.length kc) := cell_keep dq3 cC
          have g0 : wr.drew.cell? ⟨b, off + k, none⟩ = some (.slice x s.outs[k].length kx) := cell_keep dq3 c0
          have uA := ta.keep dq3 (by omega)
          go_region_held3 (fun w' => w'.cell? ⟨w.heap.size, 0, none⟩ = some (.int .i64 s.ins) ∧ w'.cell? ⟨w.heap.size, 1, none⟩ = some (.slice (some ⟨b, off, none⟩) s.outs.length ko) ∧ w'.cell? ⟨w.heap.size, 2, none⟩ = some (.slice ah s.hints.length kh) ∧ w'.cell? ⟨w.heap.size, 3, none⟩ = some (.slice ac s.cons.length kc) ∧ w'.cell? ⟨b, off + k, none⟩ = some (.slice x s.outs[k].length kx)) (first | exact ⟨gI, gO, gH, gC, g0⟩ | exact ⟨cell_keep j1 gI, cell_keep j1 gO, cell_keep j1 gH, cell_keep j1 gC, cell_keep j1 g0⟩ | exact ⟨cell_keep j2 (cell_keep j1 gI), cell_keep j2 (cell_keep j1 gO), cell_keep j2 (cell_keep j1 gH), cell_keep j2 (cell_keep j1 gC), cell_keep j2 (cell_keep j1 g0)⟩ | exact ⟨cell_keep j3 (cell_keep j2 (cell_keep j1 gI)), cell_keep j3 (cell_keep j2 (cell_keep j1 gO)), cell_keep j3 (cell_keep j2 (cell_keep j1 gH)), cell_keep j3 (cell_keep j2 (cell_keep j1 gC)), cell_keep j3 (cell_keep j2 (cell_keep j1 g0))⟩)
            (first
              | (go_at_call 94; refine (lok_spec o l h _ s.outs[k] wr.drew uA (by omega) _ HK1.out).mono ?_; rintro e v1 ⟨rfl, j1⟩; have s1 := j1.size)
              | (go_at_call 111; refine (l3vars_any s _ _ _ _ _ _ v1 h1 h2 nh).mono ?_; rintro e v2 ⟨rfl, j2⟩; have s2 := j2.size)
              | (go_at_call 110; refine (l2w_any o l h _ s.outs[k] (1 + s.ins + s.hints.length) v2 ((uA.keep j1 (by omega)).keep j2 (by omega)) (by omega) w0 (by omega) HK1.out _ HH.out).mono ?_; rintro e v3 ⟨rfl, j3⟩))
          have s1 := j1.size
          have s2 := j2.size
          have s3 := j3.size
          have bz : Below w.heap.size w v3 := ((((be.trans (dq3.mono (by omega))).trans (j1.mono (by omega))).trans (j2.mono (by omega))).trans (j3.mono (by omega)))
          have kI := cell_keep j3 (cell_keep j2 (cell_keep j1 (gI)))
          have kO := cell_keep j3 (cell_keep j2 (cell_keep j1 (gO)))
          have kH := cell_keep j3 (cell_keep j2 (cell_keep j1 (gH)))
          have kC := cell_keep j3 (cell_keep j2 (cell_keep j1 (gC)))
          clear gI gO gH gC g0 uA
          go_wp2_with fail
          go_roundw
          case rel => exact ⟨k + 1, by omega, by go_num, bz, by omega, kI, kO, kH, kC, E.out⟩
          case measure => simp [intOf]; omega
        · have HO : Hid (outsB (varsN s) s.outs = true) := Lib.hid (HQ.out.symm.trans (by rw [List.drop_eq_nil_of_le (by omega)]; rfl))
          clear HQ
          go_wp2_with fail
          go_loopw [5] (fun i wr => ∃ k : Nat, k ≤ s.cons.length ∧ i = .int .i64 k ∧ Below w.heap.size w wr ∧ w.heap.size < wr.heap.size ∧ wr.cell? ⟨w.heap.size, 0, none⟩ = some (.int .i64 s.ins) ∧ wr.cell? ⟨w.heap.size, 1, none⟩ = some (.slice ao s.outs.length ko) ∧ wr.cell? ⟨w.heap.size, 2, none⟩ = some (.slice ah s.hints.length kh) ∧ wr.cell? ⟨w.heap.size, 3, none⟩ = some (.slice ac s.cons.length kc) ∧ (s.cons.drop k).all (conW (varsN s)) = s.cons.all (conW (varsN s))) (fun i _ => s.cons.length - (intOf i).toNat)
          case atStart => exact ⟨0, Nat.zero_le _, rfl, be, by omega, cI, cO, cH, cC, rfl⟩
          case round =>
            clear cI cO cH cC
            obtain ⟨k, hk, rfl, be, zz, cI, cO, cH, cC, hq⟩ := hrel
            have HQ := Lib.hid hq
            clear hq
            by_cases hlt : k < s.cons.length
            · obtain ⟨b, off, va, vb, vc, rfl, l1, m1, c0, c1, c2, ta, tb, tc⟩ := (tC.keep be hw).at hlt
              obtain ⟨x, kx, rfl, lx, bx⟩ := ta.shape
              obtain ⟨y, ky, rfl, ly, by'⟩ := tb.shape
              obtain ⟨z, kz, rfl, lz, bz'⟩ := tc.shape
              have bl : b < wr.heap.size := World.block_lt_of_cell? _ _ c0
              have w0 : 0 ≤ 1 + s.ins + (s.hints.length : Int) := by omega
              cases hh : conW (varsN s) s.cons[k]
              · have E := Lib.hid (sysOk_cons (HQ.out.symm.trans (all_stop hlt hh)))
                have HH : Hid (conW (1 + s.ins + s.hints.length) s.cons[k] = false) := Lib.hid hh
                clear hh HQ
                go_wp2_with fail
                have dp4 : Below wr.heap.size wr wr.drew := (Below.refl _ _).drew
                have zdp4 : wr.heap.size ≤ wr.drew.heap.size := Nat.le_refl _
                have zep4 : wr.drew.heap.size ≤ wr.heap.size := Nat.le_refl _
                have gI : wr.drew.cell? ⟨w.heap.size, 0, none⟩ = some (.int .i64 s.ins) := cell_keep dp4 cI
                have gO : wr.drew.cell? ⟨w.heap.size, 1, none⟩ = some (.slice ao s.outs.length ko) := cell_keep dp4 cO
                have gH : wr.drew.cell? ⟨w.heap.size, 2, none⟩ = some (.slice ah s.hints.length kh) := cell_keep dp4 cH
                have gC : wr.drew.cell? ⟨w.heap.size, 3, none⟩ = some (.slice (some ⟨b, off, none⟩) s.cons.length kc) := cell_keep dp4 cC
                have g0 : wr.drew.cell? ⟨b, off + k * 3, none⟩ = some (.slice x s.cons[k].a.length kx) := cell_keep dp4 c0
                have g1 : wr.drew.cell? ⟨b, off + k * 3 + 1, none⟩ = some (.slice y s.cons[k].b.length ky) := cell_keep dp4 c1
                have g2 : wr.drew.cell? ⟨b, off + k * 3 + 2, none⟩ = some (.slice z s.cons[k].c.length kz) := cell_keep dp4 c2
                have uA := ta.keep dp4 (by omega)
                have uB := tb.keep dp4 (by omega)
                have uD := tc.keep dp4 (by omega)
                go_region_held3 (fun w' => w'.cell? ⟨w.heap.size, 0, none⟩ = some (.int .i64 s.ins) ∧ w'.cell? ⟨w.heap.size, 1, none⟩ = some (.slice ao s.outs.length ko) ∧ w'.cell? ⟨w.heap.size, 2, none⟩ = some (.slice ah s.hints.length kh) ∧ w'.cell? ⟨w.heap.size, 3, none⟩ = some (.slice (some ⟨b, off, none⟩) s.cons.length kc) ∧ w'.cell? ⟨b, off + k * 3, none⟩ = some (.slice x s.cons[k].a.length kx) ∧ w'.cell? ⟨b, off + k * 3 + 1, none⟩ = some (.slice y s.cons[k].b.length ky) ∧ w'.cell? ⟨b, off + k * 3 + 2, none⟩ = some (.slice z s.cons[k].c.length kz)) (first | exact ⟨gI, gO, gH, gC, g0, g1, g2⟩ | exact ⟨cell_keep j1 gI, cell_keep j1 gO, cell_keep j1 gH, cell_keep j1 gC, cell_keep j1 g0, cell_keep j1 g1, cell_keep j1 g2⟩ | exact ⟨cell_keep j2 (cell_keep j1 gI), cell_keep j2 (cell_keep j1 gO), cell_keep j2 (cell_keep j1 gH), cell_keep j2 (cell_keep j1 gC), cell_keep j2 (cell_keep j1 g0), cell_keep j2 (cell_keep j1 g1), cell_keep j2 (cell_keep j1 g2)⟩)
                  (first
                    | (go_at_call 111; refine (l3vars_any s _ _ _ _ _ _ wr.drew h1 h2 nh).mono ?_; rintro e v1 ⟨rfl, j1⟩; have s1 := j1.size)
                    | (go_at_call 138; refine (l3con_any o l h _ _ _ s.cons[k] (1 + s.ins + s.hints.length) v1 (uA.keep j1 (by omega)) (uB.keep j1 (by omega)) (uD.keep j1 (by omega)) (by omega) w0 (by omega)).mono ?_; rw [HH.out]; rintro e v2 ⟨rfl, j2⟩))
                have s1 := j1.size
                have s2 := j2.size
                have bz : Below w.heap.size w v2 := (((be.trans (dp4.mono (by omega))).trans (j1.mono (by omega))).trans (j2.mono (by omega)))
                have kI := cell_keep j2 (cell_keep j1 (gI))
                have kO := cell_keep j2 (cell_keep j1 (gO))
                have kH := cell_keep j2 (cell_keep j1 (gH))
                have kC := cell_keep j2 (cell_keep j1 (gC))
                clear gI gO gH gC g0 g1 g2 uA uB uD
                go_wp2_with fail
                go_ret
                exact ⟨ret_bool E.out.symm, bz⟩
              have E := Lib.hid ((all_step hlt hh).symm.trans HQ.out)
              have HH : Hid (conW (1 + s.ins + s.hints.length) s.cons[k] = true) := Lib.hid hh
              clear hh HQ
              go_wp2_with fail
              have dq4 : Below wr.heap.size wr wr.drew := (Below.refl _ _).drew
              have zdq4 : wr.heap.size ≤ wr.drew.heap.size := Nat.le_refl _
              have zeq4 : wr.drew.heap.size ≤ wr.heap.size := Nat.le_refl _
              have gI : wr.drew.cell? ⟨w.heap.size, 0, none⟩ = some (.int .i64 s.ins) := cell_keep dq4 cI
              have gO : wr.drew.cell? ⟨w.heap.size, 1, none⟩ = some (.slice ao s.outs.length ko) := cell_keep dq4 cO
              have gH : wr.drew.cell? ⟨w.heap.size, 2, none⟩ = some (.slice ah s.hints.length kh) := cell_keep dq4 cH
              have gC : wr.drew.cell? ⟨w.heap.size, 3, none⟩ = some (.slice (some ⟨b, off, none⟩) s.cons.length kc) := cell_keep dq4 cC
              have g0 : wr.drew.cell? ⟨b, off + k * 3, none⟩ = some (.slice x s.cons[k].a.length kx) := cell_keep dq4 c0
              have g1 : wr.drew.cell? ⟨b, off + k * 3 + 1, none⟩ = some (.slice y s.cons[k].b.length ky) := cell_keep dq4 c1
              have g2 : wr.drew.cell? ⟨b, off + k * 3 + 2, none⟩ = some (.slice z s.cons[k].c.length kz) := cell_keep dq4 c2
              have uA := ta.keep dq4 (by omega)
              have uB := tb.keep dq4 (by omega)
              have uD := tc.keep dq4 (by omega)
              go_region_held3 (fun w' => w'.cell? ⟨w.heap.size, 0, none⟩ = some (.int .i64 s.ins) ∧ w'.cell? ⟨w.heap.size, 1, none⟩ = some (.slice ao s.outs.length ko) ∧ w'.cell? ⟨w.heap.size, 2, none⟩ = some (.slice ah s.hints.length kh) ∧ w'.cell? ⟨w.heap.size, 3, none⟩ = some (.slice (some ⟨b, off, none⟩) s.cons.length kc) ∧ w'.cell? ⟨b, off + k * 3, none⟩ = some (.slice x s.cons[k].a.length kx) ∧ w'.cell? ⟨b, off + k * 3 + 1, none⟩ = some (.slice y s.cons[k].b.length ky) ∧ w'.cell? ⟨b, off + k * 3 + 2, none⟩ = some (.slice z s.cons[k].c.length kz)) (first | exact ⟨gI, gO, gH, gC, g0, g1, g2⟩ | exact ⟨cell_keep j1 gI, cell_keep j1 gO, cell_keep j1 gH, cell_keep j1 gC, cell_keep j1 g0, cell_keep j1 g1, cell_keep j1 g2⟩ | exact ⟨cell_keep j2 (cell_keep j1 gI), cell_keep j2 (cell_keep j1 gO), cell_keep j2 (cell_keep j1 gH), cell_keep j2 (cell_keep j1 gC), cell_keep j2 (cell_keep j1 g0), cell_keep j2 (cell_keep j1 g1), cell_keep j2 (cell_keep j1 g2)⟩)
                (first
                  | (go_at_call 111; refine (l3vars_any s _ _ _ _ _ _ wr.drew h1 h2 nh).mono ?_; rintro e v1 ⟨rfl, j1⟩; have s1 := j1.size)
                  | (go_at_call 138; refine (l3con_any o l h _ _ _ s.cons[k] (1 + s.ins + s.hints.length) v1 (uA.keep j1 (by omega)) (uB.keep j1 (by omega)) (uD.keep j1 (by omega)) (by omega) w0 (by omega)).mono ?_; rw [HH.out]; rintro e v2 ⟨rfl, j2⟩))
              have s1 := j1.size
              have s2 := j2.size
              have bz : Below w.heap.size w v2 := (((be.trans (dq4.mono (by omega))).trans (j1.mono (by omega))).trans (j2.mono (by omega)))
              have kI := cell_keep j2 (cell_keep j1 (gI))
              have kO := cell_keep j2 (cell_keep j1 (gO))
              have kH := cell_keep j2 (cell_keep j1 (gH))
              have kC := cell_keep j2 (cell_keep j1 (gC))
              clear gI gO gH gC g0 g1 g2 uA uB uD
              go_wp2_with fail
              go_roundw
              case rel => exact ⟨k + 1, by omega, by go_num, bz, by omega, kI, kO, kH, kC, E.out⟩
              case measure => simp [intOf]; omega
            · have HC : Hid (consB (varsN s) s.cons = true) := Lib.hid (HQ.out.symm.trans (by rw [List.drop_eq_nil_of_le (by omega)]; rfl))
              clear HQ
              have HR := Lib.hid (sysOk_yes hl HB.out HO.out HC.out)
              go_wp2_with fail
              go_ret
              exact ⟨ret_bool HR.out.symm, be⟩
end Go.Proofs.Yteekpdlkdpkegaa.L
