/- B13: ExtL AddMul -/
import Derived.Test.YtcenijdaacbgpaaB12
import Derived.Test.YtcenijdaacbgpaaB11
import Derived.Conc.MuLone
set_option linter.unusedVariables false
set_option linter.unusedSimpArgs false
/- A system extended by what a function literal adds, with terms as its result. -/
namespace Go.Proofs.Ytcenijdaacbgpaa.L
open Go.RowKit Go.Proofs.Ytcenijdaacbgpaa.S
set_option linter.unusedVariables false
set_option linter.unusedSimpArgs false

theorem SameF.drew {F : Nat → Prop} {w w' : World} (h : SameF F w w') : SameF F w w'.drew := fun k hk => h k hk
theorem sameF_sets5d {F : Nat → Prop} {b b' : Nat} (w : World) (u0 u1 u2 u3 u : Value) (hb : ¬ F b) (hb' : ¬ F b') : SameF F w (((((w.setCell ⟨b, 0, none⟩ u0).setCell ⟨b, 1, none⟩ u1).setCell ⟨b, 2, none⟩ u2).setCell ⟨b, 3, none⟩ u3).setCell ⟨b', 0, none⟩ u).drew := SameF.drew (sameF_sets5 w u0 u1 u2 u3 u hb hb')

set_option maxRecDepth 100000 in
set_option maxHeartbeats 6400000 in
theorem extL_any (f : Nat) (caps : Array Value) (o l h vi vo vh vc) (s : SysC) (ab cap : Nat) (ls : List (List T)) (bd : Bd) (rv : List T) (w : World) (ts : SysR o l h w vi vo vh vc s) (hh : h ≤ w.heap.size)
    (sm : Small s) (A : ArgsL w ab ls) (na : ls.length ≤ 16) (nca : ls.length ≤ cap) (ncb : cap ≤ 9223372036854775807) (nb : bd.n ≤ 1000000)
    (eg : ∀ args w, (callFunc f args).run Try.prog w = .ok (.enter f args) w)
    (C : mayL s ls = true → ∀ gv g Q w', Below w.heap.size w w' → Bld w.heap.size g gv s ⟨[], [], 0⟩ Q w' → Calls Try.prog f (#[.pointer (some ⟨g, 0, none⟩)] ++ caps) w' (RetV w.heap.size g gv s bd rv Q w'))
    (ok : Bool) (r : SysC) (v : List T) (Ho : Hid (ok = (mayL s ls && bOk bd))) (Hr : Hid (r = if mayL s ls = true then bSys s bd else sys0)) (Hv : Hid (v = if (mayL s ls && bOk bd) = true then rv else [])) :
    Calls Try.prog 35 #[.agg #[vi, vo, vh, vc], .slice (some ⟨ab, 0, none⟩) ls.length cap, .func (.func f) #[] caps] w (ExtL ok r v w) := by
  obtain ⟨ao, ko, ah, kh, ac, kc, rfl, rfl, rfl, rfl, lo, bo, lh, bh, lc, bc, fi⟩ := id ts.shape
  have no := sm.1
  have nh := sm.2.1
  have nc := sm.2.2.1
  cases hk : sysOk s
  · have HM : Hid (mayL s ls = false) := Lib.hid (by unfold mayL; rw [hk]; rfl)
    go_enter Try.func35, Try.ntmps35
    go_wp2_with fail
    refine name_call fun w1 hw1 => ?_
    have e1 : Below w.heap.size w w1 := by rw [hw1]; (repeat (with_reducible first | exact bR _ _ | assumption | refine bD ?_ | refine bN ?_ _ | refine bA ?_ _ | refine bS ?_ _))
    have z1 : w.heap.size + 4 ≤ w1.heap.size := by rw [hw1]; simp
    have BR : Box4 w1 (w.heap.size + 1) (.int .i64 0) (.slice none 0 0) (.slice none 0 0) (.slice none 0 0) := ⟨by rw [hw1]; first | (simp; done) | go_simp, by rw [hw1]; first | (simp; done) | go_simp, by rw [hw1]; first | (simp; done) | go_simp, by rw [hw1]; first | (simp; done) | go_simp⟩
    have FR : Free4 w1 (w.heap.size + 1) := ⟨by rw [hw1]; first | (simp; done) | go_simp, by rw [hw1]; first | (simp; done) | go_simp, by rw [hw1]; first | (simp; done) | go_simp, by rw [hw1]; first | (simp; done) | go_simp⟩
    have cL : w1.cell? ⟨w.heap.size + 1 + 1, 0, none⟩ = some (.slice none 0 0) := by rw [hw1]; first | (simp; done) | go_simp
    have fL : w1.frozen? ⟨w.heap.size + 1 + 1, 0, none⟩ = false := by rw [hw1]; first | (simp; done) | go_simp
    have cN : w1.cell? ⟨w.heap.size + 1 + 1 + 1, 0, none⟩ = some (.slice none 0 0) := by rw [hw1]; first | (simp; done) | go_simp
    clear hw1
    refine (sysOk_implb o l h _ _ _ _ s _ (ts.keep e1 hh) (by omega) nh no nc false hk).mono ?_; rintro e w2 ⟨rfl, f2⟩
    have z2 := f2.size
    have e2 : Below w.heap.size w w2 := e1.trans (f2.mono (by omega))
    have BR2 := BR.keep f2 (by omega)
    have FR2 := FR.keep f2 (by omega)
    have cL2 := cell_keep f2 cL
    have fL2 := (f2.frozen (p := ⟨w.heap.size + 1 + 1, 0, none⟩) (show w.heap.size + 1 + 1 < w1.heap.size by omega)).trans fL
    have cN2 := cell_keep f2 cN
    have dz : Below w2.heap.size w2 w2.drew := (Below.refl _ _).drew
    have KN : Hid (w2.cell? ⟨w.heap.size + 1 + 1 + 1, 0, none⟩ = some (.slice none 0 0)) := Lib.hid cN2
    have s2 : w.heap.size + 4 ≤ w2.heap.size := by omega
    obtain ⟨r0, r1, r2, r3⟩ := id BR2
    obtain ⟨y0, y1, y2, y3⟩ := FR2
    have lA : w.heap.size + 1 < w2.heap.size := by omega
    have lB : w.heap.size + 1 + 1 < w2.heap.size := by omega
    clear BR FR cL fL cN hk C A cN2
    go_wp2_with fail
    go_region_held3 (fun w' => w'.cell? ⟨w.heap.size + 1 + 1 + 1, 0, none⟩ = some (.slice none 0 0)) (repeat (first | with_reducible exact KN.out | with_reducible refine cell_drew ?_ | ((with_reducible refine cell_other1 ?_ ?_); (focus omega)))) (fail)
    go_wp2_with fail
    obtain ⟨t0, t1, t2, t3⟩ := BR2.copied5 (b' := w.heap.size + 1 + 1) (by omega) (.int .i64 0) (.slice none 0 0) (.slice none 0 0) (.slice none 0 0) (.slice none 0 0)
    have t4 := cell_copied5 (b := w.heap.size + 1) cL2 (by omega) (.int .i64 0) (.slice none 0 0) (.slice none 0 0) (.slice none 0 0) (.slice none 0 0)
    exact bodyPost_ret (v := .tuple #[.agg #[.int .i64 0, .slice none 0 0, .slice none 0 0, .slice none 0 0], .agg #[.slice none 0 0], .bool false]) (by simp [results, Try.results35, go_sem, t0, t1, t2, t3, t4]) rfl (ExtL.of (by rw [Ho.out, HM.out]; rfl) (by rw [Hr.out, HM.out]; rfl) (by rw [Hv.out, HM.out]; rfl) (by (repeat (with_reducible first | exact bR _ _ | assumption | refine bD ?_ | refine bN ?_ _ | refine bA ?_ _ | refine bS ?_ _))) (SysF.zero _) (TermsF.nil _ (fun _ => False) _) (fun _ q => q.elim) (fun _ q => q.elim))
  have lim := limB_facts (sysOk_limB hk)
  go_enter Try.func35, Try.ntmps35
  go_wp2_with fail
  refine name_call fun w1 hw1 => ?_
  have I1 : InE w w1 s ao ko ah kh ac kc := ⟨by rw [hw1]; (repeat (with_reducible first | exact bR _ _ | assumption | refine bD ?_ | refine bN ?_ _ | refine bA ?_ _ | refine bS ?_ _)), by rw [hw1]; simp, ⟨by rw [hw1]; first | (simp; done) | go_simp, by rw [hw1]; first | (simp; done) | go_simp, by rw [hw1]; first | (simp; done) | go_simp, by rw [hw1]; first | (simp; done) | go_simp⟩, ⟨by rw [hw1]; first | (simp; done) | go_simp, by rw [hw1]; first | (simp; done) | go_simp, by rw [hw1]; first | (simp; done) | go_simp, by rw [hw1]; first | (simp; done) | go_simp⟩, ⟨by rw [hw1]; first | (simp; done) | go_simp, by rw [hw1]; first | (simp; done) | go_simp, by rw [hw1]; first | (simp; done) | go_simp, by rw [hw1]; first | (simp; done) | go_simp⟩, by rw [hw1]; first | (simp; done) | go_simp, by rw [hw1]; first | (simp; done) | go_simp, by rw [hw1]; first | (simp; done) | go_simp⟩
  clear hw1
  refine (sysOk_implb o l h _ _ _ _ s _ (ts.keep I1.1 hh) (by have := I1.2.1; omega) nh no nc true hk).mono ?_; rintro e w2 ⟨rfl, f2⟩
  have I2 := I1.keep f2
  clear I1 f2
  go_wp2_with fail
  go_loopw [23] (fun i wr => ∃ k : Nat, k ≤ ls.length ∧ i = .int .i64 k ∧ InE w wr s ao ko ah kh ac kc ∧ (∀ j (hj : j < ls.length), j < k → linW (1 + s.ins + (s.hints.length : Int)) ls[j] = true)) (fun i _ => ls.length - (intOf i).toNat)
  case atStart => exact ⟨0, Nat.zero_le _, rfl, I2, fun j _ hj => by omega⟩
  case round =>
    clear I2
    obtain ⟨k, hk', rfl, I, hq⟩ := hrel
    obtain ⟨b1, z1, ⟨c0, c1, c2, c3⟩, BR, FR, cL, fL, cN⟩ := id I
    have HQ := Lib.hid hq
    clear hq
    by_cases hlt : k < ls.length
    · obtain ⟨u, cu, tu⟩ := (A.keep b1).2 k hlt
      obtain ⟨x, kx, rfl, lx, bx⟩ := tu.shape
      have la : ab < wr.heap.size := World.block_lt_of_cell? _ _ cu
      cases hW : linW (1 + s.ins + (s.hints.length : Int)) ls[k]
      · have HM : Hid (mayL s ls = false) := Lib.hid (allL_stop hlt hW)
        have HW := Lib.hid hW
        clear hW
        go_wp2_with fail
        refine name_wp fun wp hwp => ?_
        have ep : Below wr.heap.size wr wp := by rw [hwp]; (repeat (with_reducible first | exact bR _ _ | assumption | refine bD ?_ | refine bN ?_ _ | refine bA ?_ _ | refine bS ?_ _))
        have zp : wr.heap.size + 1 ≤ wp.heap.size := by rw [hwp]; simp
        have cX : wp.cell? ⟨wr.heap.size, 0, none⟩ = some (.slice x ls[k].length kx) := by rw [hwp]; first | (simp; done) | go_simp
        clear hwp
        have d0 := cell_keep ep c0
        have d1 := cell_keep ep c1
        have d2 := cell_keep ep c2
        have d3 := cell_keep ep c3
        have tp := tu.keep ep (Nat.le_refl _)
        have dz : Below wp.heap.size wp wp.drew := (Below.refl _ _).drew
        have KK : Hid (∀ w', Below wp.heap.size wp w' → w'.cell? ⟨wr.heap.size, 0, none⟩ = some (.slice x ls[k].length kx) ∧ w'.cell? ⟨w.heap.size, 0, none⟩ = some (.int .i64 s.ins) ∧ w'.cell? ⟨w.heap.size, 1, none⟩ = some (.slice ao s.outs.length ko) ∧ w'.cell? ⟨w.heap.size, 2, none⟩ = some (.slice ah s.hints.length kh) ∧ w'.cell? ⟨w.heap.size, 3, none⟩ = some (.slice ac s.cons.length kc)) := Lib.hid fun w' h => ⟨cell_keep h cX, cell_keep h d0, cell_keep h d1, cell_keep h d2, cell_keep h d3⟩
        have TT : Hid (∀ w', Below wp.heap.size wp w' → Terms false 0 wr.heap.size w' (.slice x ls[k].length kx) ls[k]) := Lib.hid fun w' h => tp.keep h (by omega)
        have IP := I.keep ep
        clear cX d0 d1 d2 d3 tp tu cu I b1 BR FR cL fL cN c0 c1 c2 c3 ep
        go_region_held3 (fun w' => w'.cell? ⟨wr.heap.size, 0, none⟩ = some (.slice x ls[k].length kx) ∧ w'.cell? ⟨w.heap.size, 0, none⟩ = some (.int .i64 s.ins) ∧ w'.cell? ⟨w.heap.size, 1, none⟩ = some (.slice ao s.outs.length ko) ∧ w'.cell? ⟨w.heap.size, 2, none⟩ = some (.slice ah s.hints.length kh) ∧ w'.cell? ⟨w.heap.size, 3, none⟩ = some (.slice ac s.cons.length kc)) (exact KK.out _ (by (repeat (with_reducible first | exact bR _ _ | assumption | refine bD ?_ | refine bN ?_ _ | refine bA ?_ _ | refine bS ?_ _))))
          (first
            | (go_at_call 42; (with_reducible refine (vars_any s ao ko ah kh ac kc _ lim.1 lim.2.1 nh).mono ?_); rintro e y1 ⟨rfl, j1⟩; have G1 : Below wp.heap.size wp y1 := Below.trans (by (repeat (with_reducible first | exact bR _ _ | assumption | refine bD ?_ | refine bN ?_ _ | refine bA ?_ _ | refine bS ?_ _))) (j1.mono (Below.size (B := wp.heap.size) (by (repeat (with_reducible first | exact bR _ _ | assumption | refine bD ?_ | refine bN ?_ _ | refine bA ?_ _ | refine bS ?_ _))))))
            | (go_at_call 41; (with_reducible refine (withinI_no false 0 wr.heap.size _ ls[k] _ _ (TT.out _ (by (repeat (with_reducible first | exact bR _ _ | assumption | refine bD ?_ | refine bN ?_ _ | refine bA ?_ _ | refine bS ?_ _)))) (Nat.le_trans (by omega : wr.heap.size ≤ wp.heap.size) (Below.size (B := wp.heap.size) (by (repeat (with_reducible first | exact bR _ _ | assumption | refine bD ?_ | refine bN ?_ _ | refine bA ?_ _ | refine bS ?_ _))))) HW.out).mono ?_); rintro e y2 ⟨rfl, j2⟩; have G2 : Below wp.heap.size wp y2 := Below.trans (by (repeat (with_reducible first | exact bR _ _ | assumption | refine bD ?_ | refine bN ?_ _ | refine bA ?_ _ | refine bS ?_ _))) (j2.mono (Below.size (B := wp.heap.size) (by (repeat (with_reducible first | exact bR _ _ | assumption | refine bD ?_ | refine bN ?_ _ | refine bA ?_ _ | refine bS ?_ _)))))))
        have IY := IP.keep G2
        obtain ⟨b2, z2, -, BR2, ⟨y0, y1', y2', y3⟩, cL2, fL2, cN2⟩ := id IY
        obtain ⟨r0, r1, r2, r3⟩ := id BR2
        have lA : w.heap.size + 1 < y2.heap.size := by omega
        have lB : w.heap.size + 1 + 1 < y2.heap.size := by omega
        have KN : Hid (y2.cell? ⟨w.heap.size + 1 + 1 + 1, 0, none⟩ = some (.slice none 0 0)) := Lib.hid cN2
        clear IY IP KK TT cN2
        go_wp2_with fail
        go_region_held3 (fun w' => w'.cell? ⟨w.heap.size + 1 + 1 + 1, 0, none⟩ = some (.slice none 0 0)) (repeat (first | with_reducible exact KN.out | with_reducible refine cell_drew ?_ | ((with_reducible refine cell_other1 ?_ ?_); (focus omega)))) (fail)
        go_wp2_with fail
        obtain ⟨t0, t1, t2, t3⟩ := BR2.copied5 (b' := w.heap.size + 1 + 1) (by omega) (.int .i64 0) (.slice none 0 0) (.slice none 0 0) (.slice none 0 0) (.slice none 0 0)
        have t4 := cell_copied5 (b := w.heap.size + 1) cL2 (by omega) (.int .i64 0) (.slice none 0 0) (.slice none 0 0) (.slice none 0 0) (.slice none 0 0)
        exact bodyPost_ret (v := .tuple #[.agg #[.int .i64 0, .slice none 0 0, .slice none 0 0, .slice none 0 0], .agg #[.slice none 0 0], .bool false]) (by simp [results, Try.results35, go_sem, t0, t1, t2, t3, t4]) rfl (ExtL.of (by rw [Ho.out, HM.out]; rfl) (by rw [Hr.out, HM.out]; rfl) (by rw [Hv.out, HM.out]; rfl) (by (repeat (with_reducible first | exact bR _ _ | assumption | refine bD ?_ | refine bN ?_ _ | refine bA ?_ _ | refine bS ?_ _))) (SysF.zero _) (TermsF.nil _ (fun _ => False) _) (fun _ q => q.elim) (fun _ q => q.elim))
      have HW := Lib.hid hW
      clear hW
      go_wp2_with fail
      refine name_wp fun wp hwp => ?_
      have ep : Below wr.heap.size wr wp := by rw [hwp]; (repeat (with_reducible first | exact bR _ _ | assumption | refine bD ?_ | refine bN ?_ _ | refine bA ?_ _ | refine bS ?_ _))
      have zp : wr.heap.size + 1 ≤ wp.heap.size := by rw [hwp]; simp
      have cX : wp.cell? ⟨wr.heap.size, 0, none⟩ = some (.slice x ls[k].length kx) := by rw [hwp]; first | (simp; done) | go_simp
      clear hwp
      have d0 := cell_keep ep c0
      have d1 := cell_keep ep c1
      have d2 := cell_keep ep c2
      have d3 := cell_keep ep c3
      have tp := tu.keep ep (Nat.le_refl _)
      have dz : Below wp.heap.size wp wp.drew := (Below.refl _ _).drew
      have KK : Hid (∀ w', Below wp.heap.size wp w' → w'.cell? ⟨wr.heap.size, 0, none⟩ = some (.slice x ls[k].length kx) ∧ w'.cell? ⟨w.heap.size, 0, none⟩ = some (.int .i64 s.ins) ∧ w'.cell? ⟨w.heap.size, 1, none⟩ = some (.slice ao s.outs.length ko) ∧ w'.cell? ⟨w.heap.size, 2, none⟩ = some (.slice ah s.hints.length kh) ∧ w'.cell? ⟨w.heap.size, 3, none⟩ = some (.slice ac s.cons.length kc)) := Lib.hid fun w' h => ⟨cell_keep h cX, cell_keep h d0, cell_keep h d1, cell_keep h d2, cell_keep h d3⟩
      have TT : Hid (∀ w', Below wp.heap.size wp w' → Terms false 0 wr.heap.size w' (.slice x ls[k].length kx) ls[k]) := Lib.hid fun w' h => tp.keep h (by omega)
      have IP := I.keep ep
      clear cX d0 d1 d2 d3 tp tu cu I b1 BR FR cL fL cN c0 c1 c2 c3 ep
      go_region_held3 (fun w' => w'.cell? ⟨wr.heap.size, 0, none⟩ = some (.slice x ls[k].length kx) ∧ w'.cell? ⟨w.heap.size, 0, none⟩ = some (.int .i64 s.ins) ∧ w'.cell? ⟨w.heap.size, 1, none⟩ = some (.slice ao s.outs.length ko) ∧ w'.cell? ⟨w.heap.size, 2, none⟩ = some (.slice ah s.hints.length kh) ∧ w'.cell? ⟨w.heap.size, 3, none⟩ = some (.slice ac s.cons.length kc)) (exact KK.out _ (by (repeat (with_reducible first | exact bR _ _ | assumption | refine bD ?_ | refine bN ?_ _ | refine bA ?_ _ | refine bS ?_ _))))
        (first
          | (go_at_call 42; (with_reducible refine (vars_any s ao ko ah kh ac kc _ lim.1 lim.2.1 nh).mono ?_); rintro e y1 ⟨rfl, j1⟩; have G1 : Below wp.heap.size wp y1 := Below.trans (by (repeat (with_reducible first | exact bR _ _ | assumption | refine bD ?_ | refine bN ?_ _ | refine bA ?_ _ | refine bS ?_ _))) (j1.mono (Below.size (B := wp.heap.size) (by (repeat (with_reducible first | exact bR _ _ | assumption | refine bD ?_ | refine bN ?_ _ | refine bA ?_ _ | refine bS ?_ _))))))
          | (go_at_call 41; (with_reducible refine (withinI_yes false 0 wr.heap.size _ ls[k] _ _ (TT.out _ (by (repeat (with_reducible first | exact bR _ _ | assumption | refine bD ?_ | refine bN ?_ _ | refine bA ?_ _ | refine bS ?_ _)))) (Nat.le_trans (by omega : wr.heap.size ≤ wp.heap.size) (Below.size (B := wp.heap.size) (by (repeat (with_reducible first | exact bR _ _ | assumption | refine bD ?_ | refine bN ?_ _ | refine bA ?_ _ | refine bS ?_ _))))) HW.out).mono ?_); rintro e y2 ⟨rfl, j2⟩; have G2 : Below wp.heap.size wp y2 := Below.trans (by (repeat (with_reducible first | exact bR _ _ | assumption | refine bD ?_ | refine bN ?_ _ | refine bA ?_ _ | refine bS ?_ _))) (j2.mono (Below.size (B := wp.heap.size) (by (repeat (with_reducible first | exact bR _ _ | assumption | refine bD ?_ | refine bN ?_ _ | refine bA ?_ _ | refine bS ?_ _)))))))
      have IY := IP.keep G2
      clear IP KK TT
      go_wp2_with fail
      go_roundw
      case rel => exact ⟨k + 1, hlt, by go_num, by first | exact IY | exact IY.keep (Below.refl _ _).drew, fun j hj hjk => by
        by_cases e : j = k
        · subst e; exact HW.out
        · exact HQ.out j hj (by omega)⟩
      case measure => simp [intOf]; omega
    obtain rfl : k = ls.length := by omega
    have HM : Hid (mayL s ls = true) := Lib.hid (allL_done hk fun j hj => HQ.out j hj hj)
    go_wp2_with fail
    refine name_call fun w3 hw3 => ?_
    have e3 : Below wr.heap.size wr w3 := by rw [hw3]; (repeat (with_reducible first | exact bR _ _ | assumption | refine bD ?_ | refine bN ?_ _ | refine bA ?_ _ | refine bS ?_ _))
    have z3 : wr.heap.size + 1 ≤ w3.heap.size := by rw [hw3]; simp
    have G4 : Box4 w3 wr.heap.size (.int .i64 s.ins) (.slice ao s.outs.length ko) (.slice ah s.hints.length kh) (.slice ac s.cons.length kc) := ⟨by rw [hw3]; first | (simp; done) | go_simp, by rw [hw3]; first | (simp; done) | go_simp, by rw [hw3]; first | (simp; done) | go_simp, by rw [hw3]; first | (simp; done) | go_simp⟩
    have g4 : w3.cell? ⟨wr.heap.size, 4, none⟩ = some (.slice none 0 0) := by rw [hw3]; first | (simp; done) | go_simp
    have g5 : w3.cell? ⟨wr.heap.size, 5, none⟩ = some (.slice none 0 0) := by rw [hw3]; first | (simp; done) | go_simp
    have g6 : w3.cell? ⟨wr.heap.size, 6, none⟩ = some (.int .i64 0) := by rw [hw3]; first | (simp; done) | go_simp
    have gf : ∀ j, w3.frozen? ⟨wr.heap.size, j, none⟩ = false := by intro j; rw [hw3]; first | (simp; done) | go_simp
    clear hw3
    have I3 := I.keep e3
    have BB : Bld w.heap.size wr.heap.size ⟨ao, ko, ah, kh, ac, kc⟩ s ⟨[], [], 0⟩ (fun k => k = wr.heap.size) w3 := Bld.start (by omega) (by omega) G4 gf g4 g5 g6
    clear G4 g4 g5 g6 gf I b1 BR FR cL fL cN c0 c1 c2 c3
    refine (C HM.out ⟨ao, ko, ah, kh, ac, kc⟩ _ _ w3 I3.1 BB).mono ?_; rintro e w4 ⟨u, Q4, rfl, B4, N4, X4⟩
    obtain ⟨p, kp, rfl, lp, bp⟩ := N4.shape
    have z4 := X4.size
    have I4 := I3.keepB (B := wr.heap.size) (X4.only.below (fun k q => by subst q; exact Nat.le_refl _) (by omega)) (by omega)
    have QG : Hid (∀ k, Q4 k → wr.heap.size ≤ k) := Lib.hid fun k q => by rcases X4.grow k q with q | q <;> omega
    have lg4 : wr.heap.size < w4.heap.size := by omega
    clear BB X4 I3 C A
    go_wp2_with fail
    refine name_call fun w5 hw5 => ?_
    have e5 : Below w4.heap.size w4 w5 := by rw [hw5]; (repeat (with_reducible first | exact bR _ _ | assumption | refine bD ?_ | refine bN ?_ _ | refine bA ?_ _ | refine bS ?_ _))
    have z45 : w4.heap.size < w5.heap.size := by rw [hw5]; simp
    have cP : w5.cell? ⟨w4.heap.size, 0, none⟩ = some (.slice p rv.length kp) := by rw [hw5]; first | (simp; done) | go_simp
    clear hw5
    have I5 := I4.keep e5
    have B5 := B4.below e5
    have N5 : TermsF true (fun k => w3.heap.size ≤ k ∧ k < w4.heap.size ∧ ¬ Q4 k) w5 (.slice p rv.length kp) rv := TermsF.agree N4 (SameF.of_below e5 (fun k q => q.2.1))
    have SB := systemB_any w.heap.size wr.heap.size ⟨ao, ko, ah, kh, ac, kc⟩ s bd Q4 o l h w5 B5 (ts.keep I5.1 hh) (by have := I5.2.1; omega) sm nb
    have zw := I5.2.1
    clear I4 B4 N4 ts e5 e3
    cases hb : bOk bd
    · rw [hb] at SB
      refine SB.mono ?_; rintro e w6 ⟨ui, uo, uh, uc, F, rfl, f6, S6, hF⟩
      obtain ⟨xo, jo, xh, jh, xc, jc, rfl, rfl, rfl, rfl, -⟩ := id S6.shape
      have z6 := f6.size
      have I6 := I5.keepB (f6.mono (Nat.le_of_lt z45)) (by omega)
      have cP6 := cell_keep f6 cP
      have N6 := N5.agree (SameF.of_below f6 (fun k q => by have := q.2.1; omega))
      clear I5 N5 cP SB B5
      go_wp2_with fail
      refine name_wp fun w7 hw7 => ?_
      have e7 : Below w6.heap.size w6 w7 := by rw [hw7]; (repeat (with_reducible first | exact bR _ _ | assumption | refine bD ?_ | refine bN ?_ _ | refine bA ?_ _ | refine bS ?_ _))
      have z7 : w6.heap.size + 1 ≤ w7.heap.size := by rw [hw7]; simp
      have q0 : w7.cell? ⟨w6.heap.size, 0, none⟩ = some (.int .i64 (bSys s bd).ins) := by rw [hw7]; first | (simp; done) | go_simp
      have q1 : w7.cell? ⟨w6.heap.size, 1, none⟩ = some (.slice xo (bSys s bd).outs.length jo) := by rw [hw7]; first | (simp; done) | go_simp
      have q2 : w7.cell? ⟨w6.heap.size, 2, none⟩ = some (.slice xh (bSys s bd).hints.length jh) := by rw [hw7]; first | (simp; done) | go_simp
      have q3 : w7.cell? ⟨w6.heap.size, 3, none⟩ = some (.slice xc (bSys s bd).cons.length jc) := by rw [hw7]; first | (simp; done) | go_simp
      clear hw7
      obtain ⟨b7, z7', -, BR2, ⟨y0, y1', y2', y3⟩, cL2, fL2, cN2⟩ := id (I6.keep e7)
      obtain ⟨r0, r1, r2, r3⟩ := id BR2
      have cP7 := cell_keep e7 cP6
      have KN : Hid (w7.cell? ⟨w6.heap.size, 0, none⟩ = some (.int .i64 (bSys s bd).ins) ∧ w7.cell? ⟨w6.heap.size, 1, none⟩ = some (.slice xo (bSys s bd).outs.length jo) ∧ w7.cell? ⟨w6.heap.size, 2, none⟩ = some (.slice xh (bSys s bd).hints.length jh) ∧ w7.cell? ⟨w6.heap.size, 3, none⟩ = some (.slice xc (bSys s bd).cons.length jc) ∧ w7.cell? ⟨w.heap.size + 1 + 1 + 1, 0, none⟩ = some (.slice none 0 0)) := Lib.hid ⟨q0, q1, q2, q3, cN2⟩
      have S7 := S6.agree (SameF.of_below e7 (fun k q => S6.lim k q)) e7.size
      have N7 := N6.agree (SameF.of_below e7 (fun k q => by have := q.2.1; omega))
      have lA : w.heap.size + 1 < w7.heap.size := by omega
      have lB : w.heap.size + 1 + 1 < w7.heap.size := by omega
      clear I6 cP6 N6 q0 q1 q2 q3 cN2 cP7
      go_wp2_with fail
      go_region_held3 (fun w' => w'.cell? ⟨w6.heap.size, 0, none⟩ = some (.int .i64 (bSys s bd).ins) ∧ w'.cell? ⟨w6.heap.size, 1, none⟩ = some (.slice xo (bSys s bd).outs.length jo) ∧ w'.cell? ⟨w6.heap.size, 2, none⟩ = some (.slice xh (bSys s bd).hints.length jh) ∧ w'.cell? ⟨w6.heap.size, 3, none⟩ = some (.slice xc (bSys s bd).cons.length jc) ∧ w'.cell? ⟨w.heap.size + 1 + 1 + 1, 0, none⟩ = some (.slice none 0 0)) (exact ⟨by (repeat (first | with_reducible exact KN.out.1 | with_reducible refine cell_drew ?_ | ((with_reducible refine cell_other1 ?_ ?_); (focus omega)))), by (repeat (first | with_reducible exact KN.out.2.1 | with_reducible refine cell_drew ?_ | ((with_reducible refine cell_other1 ?_ ?_); (focus omega)))), by (repeat (first | with_reducible exact KN.out.2.2.1 | with_reducible refine cell_drew ?_ | ((with_reducible refine cell_other1 ?_ ?_); (focus omega)))), by (repeat (first | with_reducible exact KN.out.2.2.2.1 | with_reducible refine cell_drew ?_ | ((with_reducible refine cell_other1 ?_ ?_); (focus omega)))), by (repeat (first | with_reducible exact KN.out.2.2.2.2 | with_reducible refine cell_drew ?_ | ((with_reducible refine cell_other1 ?_ ?_); (focus omega))))⟩) (fail)
      go_wp2_with fail
      obtain ⟨t0, t1, t2, t3⟩ := BR2.copied5 (b' := w.heap.size + 1 + 1) (by omega) (.int .i64 (bSys s bd).ins) (.slice xo (bSys s bd).outs.length jo) (.slice xh (bSys s bd).hints.length jh) (.slice xc (bSys s bd).cons.length jc) (.slice none 0 0)
      have t4 := cell_copied5 (b := w.heap.size + 1) cL2 (by omega) (.int .i64 (bSys s bd).ins) (.slice xo (bSys s bd).outs.length jo) (.slice xh (bSys s bd).hints.length jh) (.slice xc (bSys s bd).cons.length jc) (.slice none 0 0)
      have hF1 : ¬ F (w.heap.size + 1) := fun q => by rcases hF _ q with q | q; have := QG.out _ q; omega; omega
      have hF2 : ¬ F (w.heap.size + 1 + 1) := fun q => by rcases hF _ q with q | q; have := QG.out _ q; omega; omega
      exact bodyPost_ret (v := .tuple #[.agg #[.int .i64 (bSys s bd).ins, .slice xo (bSys s bd).outs.length jo, .slice xh (bSys s bd).hints.length jh, .slice xc (bSys s bd).cons.length jc], .agg #[.slice none 0 0], .bool false]) (by simp [results, Try.results35, go_sem, t0, t1, t2, t3, t4]) rfl (ExtL.of (by rw [Ho.out, HM.out, hb]; rfl) (by rw [Hr.out, HM.out]; rfl) (by rw [Hv.out, HM.out, hb]; rfl) (by (repeat (with_reducible first | exact bR _ _ | assumption | refine bD ?_ | refine bN ?_ _ | refine bA ?_ _ | refine bS ?_ _))) (S7.agree (sameF_sets5d _ _ _ _ _ _ hF1 hF2) (by simp)) (TermsF.nil _ (fun _ => False) _) (fun k q => by rcases hF _ q with q | q; have := QG.out _ q; omega; omega) (fun _ q => q.elim))
    rw [hb] at SB
    refine SB.mono ?_; rintro e w6 ⟨ui, uo, uh, uc, F, rfl, f6, S6, hF⟩
    obtain ⟨xo, jo, xh, jh, xc, jc, rfl, rfl, rfl, rfl, -⟩ := id S6.shape
    have z6 := f6.size
    have I6 := I5.keepB (f6.mono (Nat.le_of_lt z45)) (by omega)
    have cP6 := cell_keep f6 cP
    have N6 := N5.agree (SameF.of_below f6 (fun k q => by have := q.2.1; omega))
    clear I5 N5 cP SB B5
    go_wp2_with fail
    refine name_wp fun w7 hw7 => ?_
    have e7 : Below w6.heap.size w6 w7 := by rw [hw7]; (repeat (with_reducible first | exact bR _ _ | assumption | refine bD ?_ | refine bN ?_ _ | refine bA ?_ _ | refine bS ?_ _))
    have z7 : w6.heap.size + 1 ≤ w7.heap.size := by rw [hw7]; simp
    have q0 : w7.cell? ⟨w6.heap.size, 0, none⟩ = some (.int .i64 (bSys s bd).ins) := by rw [hw7]; first | (simp; done) | go_simp
    have q1 : w7.cell? ⟨w6.heap.size, 1, none⟩ = some (.slice xo (bSys s bd).outs.length jo) := by rw [hw7]; first | (simp; done) | go_simp
    have q2 : w7.cell? ⟨w6.heap.size, 2, none⟩ = some (.slice xh (bSys s bd).hints.length jh) := by rw [hw7]; first | (simp; done) | go_simp
    have q3 : w7.cell? ⟨w6.heap.size, 3, none⟩ = some (.slice xc (bSys s bd).cons.length jc) := by rw [hw7]; first | (simp; done) | go_simp
    clear hw7
    obtain ⟨b7, z7', -, BR2, ⟨y0, y1', y2', y3⟩, cL2, fL2, cN2⟩ := id (I6.keep e7)
    obtain ⟨r0, r1, r2, r3⟩ := id BR2
    have cP7 := cell_keep e7 cP6
    have KN : Hid (w7.cell? ⟨w6.heap.size, 0, none⟩ = some (.int .i64 (bSys s bd).ins) ∧ w7.cell? ⟨w6.heap.size, 1, none⟩ = some (.slice xo (bSys s bd).outs.length jo) ∧ w7.cell? ⟨w6.heap.size, 2, none⟩ = some (.slice xh (bSys s bd).hints.length jh) ∧ w7.cell? ⟨w6.heap.size, 3, none⟩ = some (.slice xc (bSys s bd).cons.length jc) ∧ w7.cell? ⟨w4.heap.size, 0, none⟩ = some (.slice p rv.length kp)) := Lib.hid ⟨q0, q1, q2, q3, cP7⟩
    have S7 := S6.agree (SameF.of_below e7 (fun k q => S6.lim k q)) e7.size
    have N7 := N6.agree (SameF.of_below e7 (fun k q => by have := q.2.1; omega))
    have lA : w.heap.size + 1 < w7.heap.size := by omega
    have lB : w.heap.size + 1 + 1 < w7.heap.size := by omega
    clear I6 cP6 N6 q0 q1 q2 q3 cN2 cP7
    go_wp2_with fail
    go_region_held3 (fun w' => w'.cell? ⟨w6.heap.size, 0, none⟩ = some (.int .i64 (bSys s bd).ins) ∧ w'.cell? ⟨w6.heap.size, 1, none⟩ = some (.slice xo (bSys s bd).outs.length jo) ∧ w'.cell? ⟨w6.heap.size, 2, none⟩ = some (.slice xh (bSys s bd).hints.length jh) ∧ w'.cell? ⟨w6.heap.size, 3, none⟩ = some (.slice xc (bSys s bd).cons.length jc) ∧ w'.cell? ⟨w4.heap.size, 0, none⟩ = some (.slice p rv.length kp)) (exact ⟨by (repeat (first | with_reducible exact KN.out.1 | with_reducible refine cell_drew ?_ | ((with_reducible refine cell_other1 ?_ ?_); (focus omega)))), by (repeat (first | with_reducible exact KN.out.2.1 | with_reducible refine cell_drew ?_ | ((with_reducible refine cell_other1 ?_ ?_); (focus omega)))), by (repeat (first | with_reducible exact KN.out.2.2.1 | with_reducible refine cell_drew ?_ | ((with_reducible refine cell_other1 ?_ ?_); (focus omega)))), by (repeat (first | with_reducible exact KN.out.2.2.2.1 | with_reducible refine cell_drew ?_ | ((with_reducible refine cell_other1 ?_ ?_); (focus omega)))), by (repeat (first | with_reducible exact KN.out.2.2.2.2 | with_reducible refine cell_drew ?_ | ((with_reducible refine cell_other1 ?_ ?_); (focus omega))))⟩) (fail)
    go_wp2_with fail
    obtain ⟨t0, t1, t2, t3⟩ := BR2.copied5 (b' := w.heap.size + 1 + 1) (by omega) (.int .i64 (bSys s bd).ins) (.slice xo (bSys s bd).outs.length jo) (.slice xh (bSys s bd).hints.length jh) (.slice xc (bSys s bd).cons.length jc) (.slice p rv.length kp)
    have t4 := cell_copied5 (b := w.heap.size + 1) cL2 (by omega) (.int .i64 (bSys s bd).ins) (.slice xo (bSys s bd).outs.length jo) (.slice xh (bSys s bd).hints.length jh) (.slice xc (bSys s bd).cons.length jc) (.slice p rv.length kp)
    have hF1 : ¬ F (w.heap.size + 1) := fun q => by rcases hF _ q with q | q; have := QG.out _ q; omega; omega
    have hF2 : ¬ F (w.heap.size + 1 + 1) := fun q => by rcases hF _ q with q | q; have := QG.out _ q; omega; omega
    exact bodyPost_ret (v := .tuple #[.agg #[.int .i64 (bSys s bd).ins, .slice xo (bSys s bd).outs.length jo, .slice xh (bSys s bd).hints.length jh, .slice xc (bSys s bd).cons.length jc], .agg #[.slice p rv.length kp], .bool true]) (by simp [results, Try.results35, go_sem, t0, t1, t2, t3, t4]) rfl (ExtL.of (by rw [Ho.out, HM.out, hb]; rfl) (by rw [Hr.out, HM.out]; rfl) (by rw [Hv.out, HM.out, hb]; rfl) (by (repeat (with_reducible first | exact bR _ _ | assumption | refine bD ?_ | refine bN ?_ _ | refine bA ?_ _ | refine bS ?_ _))) (S7.agree (sameF_sets5d _ _ _ _ _ _ hF1 hF2) (by simp)) (N7.agree (sameF_sets5d _ _ _ _ _ _ (fun q => by have := q.1; omega) (fun q => by have := q.1; omega))) (fun k q => by rcases hF _ q with q | q; have := QG.out _ q; omega; omega) (fun k q => ⟨by have := q.1; omega, by have := q.2.1; simp; omega, fun r => by rcases hF _ r with r | r; exact q.2.2 r; have := q.2.1; omega⟩))
end Go.Proofs.Ytcenijdaacbgpaa.L

/- AddMul: the program. -/
namespace Go.Proofs.Ytcenijdaacbgpaa.L
open Go.RowKit Go.Proofs.Ytcenijdaacbgpaa.S
set_option linter.unusedVariables false
theorem mayL_ok {s : SysC} {ls : List (List T)} (h : mayL s ls = true) : sysOk s = true := by unfold mayL at h; exact (Bool.and_eq_true _ _ ▸ h).1

end Go.Proofs.Ytcenijdaacbgpaa.L
