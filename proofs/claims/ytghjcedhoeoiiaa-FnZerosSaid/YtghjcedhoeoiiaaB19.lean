/- B19: ExtB Constr AddEq -/
import Derived.Test.YtghjcedhoeoiiaaB13
import Derived.Test.YtghjcedhoeoiiaaBOps
set_option linter.unusedVariables false
set_option linter.unusedSimpArgs false
/- A system extended by what a function literal adds, with no result but true. -/
namespace Go.Proofs.Ytghjcedhoeoiiaa.L
open Go.RowKit Go.Proofs.Ytghjcedhoeoiiaa.S
set_option linter.unusedVariables false
set_option linter.unusedSimpArgs false

def RetT (base g : Nat) (gv : Gv) (s : SysC) (b : Bd) (Q : Nat → Prop) (w : World) (e : Ending) (w' : World) : Prop := ∃ Q', e = .returned (.bool true) ∧ Bld base g gv s b Q' w' ∧ Ext Q Q' w w'
def InB (w wr : World) (s : SysC) (ao : Option Addr) (ko : Nat) (ah : Option Addr) (kh : Nat) (ac : Option Addr) (kc : Nat) : Prop :=
  Below w.heap.size w wr ∧ w.heap.size + 2 ≤ wr.heap.size ∧ Box4 wr w.heap.size (.int .i64 s.ins) (.slice ao s.outs.length ko) (.slice ah s.hints.length kh) (.slice ac s.cons.length kc) ∧ Box4 wr (w.heap.size + 1) (.int .i64 0) (.slice none 0 0) (.slice none 0 0) (.slice none 0 0) ∧ Free4 wr (w.heap.size + 1)
theorem InB.keepB {w wr w' : World} {s : SysC} {B : Nat} {ao : Option Addr} {ko : Nat} {ah : Option Addr} {kh : Nat} {ac : Option Addr} {kc : Nat} (h : InB w wr s ao ko ah kh ac kc) (b : Below B wr w') (hB : w.heap.size + 2 ≤ B) : InB w w' s ao ko ah kh ac kc := by
  obtain ⟨h1, h2, h3, h4, h5⟩ := h
  have := b.size
  exact ⟨h1.trans (b.mono (by omega)), by omega, h3.keep b (by omega), h4.keep b (by omega), h5.keep b (by omega)⟩
theorem InB.keep {w wr w' : World} {s : SysC} {ao : Option Addr} {ko : Nat} {ah : Option Addr} {kh : Nat} {ac : Option Addr} {kc : Nat} (h : InB w wr s ao ko ah kh ac kc) (b : Below wr.heap.size wr w') : InB w w' s ao ko ah kh ac kc := h.keepB b h.2.1

set_option maxRecDepth 100000 in
set_option maxHeartbeats 1600000 in
theorem extB_any (f : Nat) (caps : Array Value) (o l h vi vo vh vc) (s : SysC) (ab cap : Nat) (ls : List (List T)) (bd : Bd) (w : World) (ts : SysR o l h w vi vo vh vc s) (hh : h ≤ w.heap.size)
    (sm : Small s) (A : ArgsL w ab ls) (na : ls.length ≤ 16) (nca : ls.length ≤ cap) (ncb : cap ≤ 9223372036854775807) (nb : bd.n ≤ 1000000)
    (eg : ∀ args w, (callFunc f args).run Try.prog w = .ok (.enter f args) w)
    (C : mayL s ls = true → ∀ gv g Q w', Below w.heap.size w w' → Bld w.heap.size g gv s ⟨[], [], 0⟩ Q w' → Calls Try.prog f (#[.pointer (some ⟨g, 0, none⟩)] ++ caps) w' (RetT w.heap.size g gv s bd Q w'))
    (ok : Bool) (r : SysC) (Ho : Hid (ok = (mayL s ls && bOk bd))) (Hr : Hid (r = if mayL s ls = true then bSys s bd else sys0)) :
    Calls Try.prog 60 #[.agg #[vi, vo, vh, vc], .slice (some ⟨ab, 0, none⟩) ls.length cap, .func (.func f) #[] caps] w (ExtB ok r w) := by
  obtain ⟨ao, ko, ah, kh, ac, kc, rfl, rfl, rfl, rfl, lo, bo, lh, bh, lc, bc, fi⟩ := id ts.shape
  have no := sm.1
  have nh := sm.2.1
  have nc := sm.2.2.1
  go_enter Try.func60, Try.ntmps60
  go_wp2_with fail
  refine name_call fun w1 hw1 => ?_
  have I1 : InB w w1 s ao ko ah kh ac kc := ⟨by rw [hw1]; (repeat (with_reducible first | exact bR _ _ | assumption | refine bD ?_ | refine bN ?_ _ | refine bA ?_ _ | refine bS ?_ _)), by rw [hw1]; simp, ⟨by rw [hw1]; first | (simp; done) | go_simp, by rw [hw1]; first | (simp; done) | go_simp, by rw [hw1]; first | (simp; done) | go_simp, by rw [hw1]; first | (simp; done) | go_simp⟩, ⟨by rw [hw1]; first | (simp; done) | go_simp, by rw [hw1]; first | (simp; done) | go_simp, by rw [hw1]; first | (simp; done) | go_simp, by rw [hw1]; first | (simp; done) | go_simp⟩, ⟨by rw [hw1]; first | (simp; done) | go_simp, by rw [hw1]; first | (simp; done) | go_simp, by rw [hw1]; first | (simp; done) | go_simp, by rw [hw1]; first | (simp; done) | go_simp⟩⟩
  clear hw1
  cases hk : sysOk s
  · have HM : Hid (mayL s ls = false) := Lib.hid (by unfold mayL; rw [hk]; rfl)
    refine (sysOk_implb o l h _ _ _ _ s _ (ts.keep I1.1 hh) (by have := I1.2.1; omega) nh no nc false hk).mono ?_; rintro e w2 ⟨rfl, f2⟩
    obtain ⟨b2, z2, -, BR2, ⟨y0, y1', y2', y3⟩⟩ := I1.keep f2
    obtain ⟨r0, r1, r2, r3⟩ := id BR2
    have lA : w.heap.size + 1 < w2.heap.size := by omega
    go_wp2_with fail
    obtain ⟨t0, t1, t2, t3⟩ := BR2.copied (.int .i64 0) (.slice none 0 0) (.slice none 0 0) (.slice none 0 0)
    exact bodyPost_ret (v := .tuple #[.agg #[.int .i64 0, .slice none 0 0, .slice none 0 0, .slice none 0 0], .bool false, .bool false]) (by simp [results, Try.results60, go_sem, t0, t1, t2, t3]) rfl (ExtB.of (by rw [Ho.out, HM.out]; rfl) (by rw [Hr.out, HM.out]; rfl) (by (repeat (with_reducible first | exact bR _ _ | assumption | refine bD ?_ | refine bN ?_ _ | refine bA ?_ _ | refine bS ?_ _))) (SysF.zero _) (fun _ q => q.elim))
  have lim := limB_facts (sysOk_limB hk)
  refine (sysOk_implb o l h _ _ _ _ s _ (ts.keep I1.1 hh) (by have := I1.2.1; omega) nh no nc true hk).mono ?_; rintro e w2 ⟨rfl, f2⟩
  have I2 := I1.keep f2
  clear I1 f2
  go_wp2_with fail
  go_loopw [23] (fun i wr => ∃ k : Nat, k ≤ ls.length ∧ i = .int .i64 k ∧ InB w wr s ao ko ah kh ac kc ∧ (∀ j (hj : j < ls.length), j < k → linW (1 + s.ins + (s.hints.length : Int)) ls[j] = true)) (fun i _ => ls.length - (intOf i).toNat)
  case atStart => exact ⟨0, Nat.zero_le _, rfl, I2, fun j _ hj => by omega⟩
  case round =>
    clear I2
    obtain ⟨k, hk', rfl, I, hq⟩ := hrel
    obtain ⟨b1, z1, ⟨c0, c1, c2, c3⟩, BR, FR⟩ := id I
    have HQ := Lib.hid hq
    clear hq
    by_cases hlt : k < ls.length
    · obtain ⟨u, cu, tu⟩ := (A.keep b1).2 k hlt
      obtain ⟨x, kx, rfl, lx, bx⟩ := tu.shape
      have la : ab < wr.heap.size := World.block_lt_of_cell? _ _ cu
      cases hW : linW (1 + s.ins + (s.hints.length : Int)) ls[k]
      · have HM : Hid (mayL s ls = false) := Lib.hid (allL_stop hlt hW)
        have HW := Lib.hid hW
        clear hW
        go_wp2_with fail
        refine name_wp fun wp hwp => ?_
        have ep : Below wr.heap.size wr wp := by rw [hwp]; (repeat (with_reducible first | exact bR _ _ | assumption | refine bD ?_ | refine bN ?_ _ | refine bA ?_ _ | refine bS ?_ _))
        have zp : wr.heap.size + 1 ≤ wp.heap.size := by rw [hwp]; simp
        have cX : wp.cell? ⟨wr.heap.size, 0, none⟩ = some (.slice x ls[k].length kx) := by rw [hwp]; first | (simp; done) | go_simp
        clear hwp
        have d0 := cell_keep ep c0
        have d1 := cell_keep ep c1
        have d2 := cell_keep ep c2
        have d3 := cell_keep ep c3
        have tp := tu.keep ep (Nat.le_refl _)
        have dz : Below wp.heap.size wp wp.drew := (Below.refl _ _).drew
        have KK : Hid (∀ w', Below wp.heap.size wp w' → w'.cell? ⟨wr.heap.size, 0, none⟩ = some (.slice x ls[k].length kx) ∧ w'.cell? ⟨w.heap.size, 0, none⟩ = some (.int .i64 s.ins) ∧ w'.cell? ⟨w.heap.size, 1, none⟩ = some (.slice ao s.outs.length ko) ∧ w'.cell? ⟨w.heap.size, 2, none⟩ = some (.slice ah s.hints.length kh) ∧ w'.cell? ⟨w.heap.size, 3, none⟩ = some (.slice ac s.cons.length kc)) := Lib.hid fun w' h => ⟨cell_keep h cX, cell_keep h d0, cell_keep h d1, cell_keep h d2, cell_keep h d3⟩
        have TT : Hid (∀ w', Below wp.heap.size wp w' → Terms false 0 wr.heap.size w' (.slice x ls[k].length kx) ls[k]) := Lib.hid fun w' h => tp.keep h (by omega)
        have IP := I.keep ep
        clear cX d0 d1 d2 d3 tp tu cu I b1 BR FR c0 c1 c2 c3 ep
        go_region_held3 (fun w' => w'.cell? ⟨wr.heap.size, 0, none⟩ = some (.slice x ls[k].length kx) ∧ w'.cell? ⟨w.heap.size, 0, none⟩ = some (.int .i64 s.ins) ∧ w'.cell? ⟨w.heap.size, 1, none⟩ = some (.slice ao s.outs.length ko) ∧ w'.cell? ⟨w.heap.size, 2, none⟩ = some (.slice ah s.hints.length kh) ∧ w'.cell? ⟨w.heap.size, 3, none⟩ = some (.slice ac s.cons.length kc)) (exact KK.out _ (by (repeat (with_reducible first | exact bR _ _ | assumption | refine bD ?_ | refine bN ?_ _ | refine bA ?_ _ | refine bS ?_ _))))
          (first
            | (go_at_call 71; (with_reducible refine (vars_any s ao ko ah kh ac kc _ lim.1 lim.2.1 nh).mono ?_); rintro e y1 ⟨rfl, j1⟩; have G1 : Below wp.heap.size wp y1 := Below.trans (by (repeat (with_reducible first | exact bR _ _ | assumption | refine bD ?_ | refine bN ?_ _ | refine bA ?_ _ | refine bS ?_ _))) (j1.mono (Below.size (B := wp.heap.size) (by (repeat (with_reducible first | exact bR _ _ | assumption | refine bD ?_ | refine bN ?_ _ | refine bA ?_ _ | refine bS ?_ _))))))
            | (go_at_call 70; (with_reducible refine (withinI_no false 0 wr.heap.size _ ls[k] _ _ (TT.out _ (by (repeat (with_reducible first | exact bR _ _ | assumption | refine bD ?_ | refine bN ?_ _ | refine bA ?_ _ | refine bS ?_ _)))) (Nat.le_trans (by omega : wr.heap.size ≤ wp.heap.size) (Below.size (B := wp.heap.size) (by (repeat (with_reducible first | exact bR _ _ | assumption | refine bD ?_ | refine bN ?_ _ | refine bA ?_ _ | refine bS ?_ _))))) HW.out).mono ?_); rintro e y2 ⟨rfl, j2⟩; have G2 : Below wp.heap.size wp y2 := Below.trans (by (repeat (with_reducible first | exact bR _ _ | assumption | refine bD ?_ | refine bN ?_ _ | refine bA ?_ _ | refine bS ?_ _))) (j2.mono (Below.size (B := wp.heap.size) (by (repeat (with_reducible first | exact bR _ _ | assumption | refine bD ?_ | refine bN ?_ _ | refine bA ?_ _ | refine bS ?_ _)))))))
        have IY := IP.keep G2
        obtain ⟨b2, z2, -, BR2, ⟨y0, y1', y2', y3⟩⟩ := id IY
        clear IY IP KK TT
        obtain ⟨r0, r1, r2, r3⟩ := id BR2
        have lA : w.heap.size + 1 < y2.heap.size := by omega
        go_wp2_with fail
        obtain ⟨t0, t1, t2, t3⟩ := BR2.copied (.int .i64 0) (.slice none 0 0) (.slice none 0 0) (.slice none 0 0)
        exact bodyPost_ret (v := .tuple #[.agg #[.int .i64 0, .slice none 0 0, .slice none 0 0, .slice none 0 0], .bool false, .bool false]) (by simp [results, Try.results60, go_sem, t0, t1, t2, t3]) rfl (ExtB.of (by rw [Ho.out, HM.out]; rfl) (by rw [Hr.out, HM.out]; rfl) (by (repeat (with_reducible first | exact bR _ _ | assumption | refine bD ?_ | refine bN ?_ _ | refine bA ?_ _ | refine bS ?_ _))) (SysF.zero _) (fun _ q => q.elim))
      have HW := Lib.hid hW
      clear hW
      go_wp2_with fail
      refine name_wp fun wp hwp => ?_
      have ep : Below wr.heap.size wr wp := by rw [hwp]; (repeat (with_reducible first | exact bR _ _ | assumption | refine bD ?_ | refine bN ?_ _ | refine bA ?_ _ | refine bS ?_ _))
      have zp : wr.heap.size + 1 ≤ wp.heap.size := by rw [hwp]; simp
      have cX : wp.cell? ⟨wr.heap.size, 0, none⟩ = some (.slice x ls[k].length kx) := by rw [hwp]; first | (simp; done) | go_simp
      clear hwp
      have d0 := cell_keep ep c0
      have d1 := cell_keep ep c1
      have d2 := cell_keep ep c2
      have d3 := cell_keep ep c3
      have tp := tu.keep ep (Nat.le_refl _)
      have dz : Below wp.heap.size wp wp.drew := (Below.refl _ _).drew
      have KK : Hid (∀ w', Below wp.heap.size wp w' → w'.cell? ⟨wr.heap.size, 0, none⟩ = some (.slice x ls[k].length kx) ∧ w'.cell? ⟨w.heap.size, 0, none⟩ = some (.int .i64 s.ins) ∧ w'.cell? ⟨w.heap.size, 1, none⟩ = some (.slice ao s.outs.length ko) ∧ w'.cell? ⟨w.heap.size, 2, none⟩ = some (.slice ah s.hints.length kh) ∧ w'.cell? ⟨w.heap.size, 3, none⟩ = some (.slice ac s.cons.length kc)) := Lib.hid fun w' h => ⟨cell_keep h cX, cell_keep h d0, cell_keep h d1, cell_keep h d2, cell_keep h d3⟩
      have TT : Hid (∀ w', Below wp.heap.size wp w' → Terms false 0 wr.heap.size w' (.slice x ls[k].length kx) ls[k]) := Lib.hid fun w' h => tp.keep h (by omega)
      have IP := I.keep ep
      clear cX d0 d1 d2 d3 tp tu cu I b1 BR FR c0 c1 c2 c3 ep
      go_region_held3 (fun w' => w'.cell? ⟨wr.heap.size, 0, none⟩ = some (.slice x ls[k].length kx) ∧ w'.cell? ⟨w.heap.size, 0, none⟩ = some (.int .i64 s.ins) ∧ w'.cell? ⟨w.heap.size, 1, none⟩ = some (.slice ao s.outs.length ko) ∧ w'.cell? ⟨w.heap.size, 2, none⟩ = some (.slice ah s.hints.length kh) ∧ w'.cell? ⟨w.heap.size, 3, none⟩ = some (.slice ac s.cons.length kc)) (exact KK.out _ (by (repeat (with_reducible first | exact bR _ _ | assumption | refine bD ?_ | refine bN ?_ _ | refine bA ?_ _ | refine bS ?_ _))))
        (first
          | (go_at_call 71; (with_reducible refine (vars_any s ao ko ah kh ac kc _ lim.1 lim.2.1 nh).mono ?_); rintro e y1 ⟨rfl, j1⟩; have G1 : Below wp.heap.size wp y1 := Below.trans (by (repeat (with_reducible first | exact bR _ _ | assumption | refine bD ?_ | refine bN ?_ _ | refine bA ?_ _ | refine bS ?_ _))) (j1.mono (Below.size (B := wp.heap.size) (by (repeat (with_reducible first | exact bR _ _ | assumption | refine bD ?_ | refine bN ?_ _ | refine bA ?_ _ | refine bS ?_ _))))))
          | (go_at_call 70; (with_reducible refine (withinI_yes false 0 wr.heap.size _ ls[k] _ _ (TT.out _ (by (repeat (with_reducible first | exact bR _ _ | assumption | refine bD ?_ | refine bN ?_ _ | refine bA ?_ _ | refine bS ?_ _)))) (Nat.le_trans (by omega : wr.heap.size ≤ wp.heap.size) (Below.size (B := wp.heap.size) (by (repeat (with_reducible first | exact bR _ _ | assumption | refine bD ?_ | refine bN ?_ _ | refine bA ?_ _ | refine bS ?_ _))))) HW.out).mono ?_); rintro e y2 ⟨rfl, j2⟩; have G2 : Below wp.heap.size wp y2 := Below.trans (by (repeat (with_reducible first | exact bR _ _ | assumption | refine bD ?_ | refine bN ?_ _ | refine bA ?_ _ | refine bS ?_ _))) (j2.mono (Below.size (B := wp.heap.size) (by (repeat (with_reducible first | exact bR _ _ | assumption | refine bD ?_ | refine bN ?_ _ | refine bA ?_ _ | refine bS ?_ _)))))))
      have IY := IP.keep G2
      clear IP KK TT
      go_wp2_with fail
      go_roundw
      case rel => exact ⟨k + 1, hlt, by go_num, by first | exact IY | exact IY.keep (Below.refl _ _).drew, fun j hj hjk => by
        by_cases e : j = k
        · subst e; exact HW.out
        · exact HQ.out j hj (by omega)⟩
      case measure => simp [intOf]; omega
    obtain rfl : k = ls.length := by omega
    have HM : Hid (mayL s ls = true) := Lib.hid (allL_done hk fun j hj => HQ.out j hj hj)
    go_wp2_with fail
    refine name_call fun w3 hw3 => ?_
    have e3 : Below wr.heap.size wr w3 := by rw [hw3]; (repeat (with_reducible first | exact bR _ _ | assumption | refine bD ?_ | refine bN ?_ _ | refine bA ?_ _ | refine bS ?_ _))
    have z3 : wr.heap.size + 1 ≤ w3.heap.size := by rw [hw3]; simp
    have G4 : Box4 w3 wr.heap.size (.int .i64 s.ins) (.slice ao s.outs.length ko) (.slice ah s.hints.length kh) (.slice ac s.cons.length kc) := ⟨by rw [hw3]; first | (simp; done) | go_simp, by rw [hw3]; first | (simp; done) | go_simp, by rw [hw3]; first | (simp; done) | go_simp, by rw [hw3]; first | (simp; done) | go_simp⟩
    have g4 : w3.cell? ⟨wr.heap.size, 4, none⟩ = some (.slice none 0 0) := by rw [hw3]; first | (simp; done) | go_simp
    have g5 : w3.cell? ⟨wr.heap.size, 5, none⟩ = some (.slice none 0 0) := by rw [hw3]; first | (simp; done) | go_simp
    have g6 : w3.cell? ⟨wr.heap.size, 6, none⟩ = some (.int .i64 0) := by rw [hw3]; first | (simp; done) | go_simp
    have gf : ∀ j, w3.frozen? ⟨wr.heap.size, j, none⟩ = false := by intro j; rw [hw3]; first | (simp; done) | go_simp
    clear hw3
    have I3 := I.keep e3
    have BB : Bld w.heap.size wr.heap.size ⟨ao, ko, ah, kh, ac, kc⟩ s ⟨[], [], 0⟩ (fun k => k = wr.heap.size) w3 := Bld.start (by omega) (by omega) G4 gf g4 g5 g6
    clear G4 g4 g5 g6 gf I b1 BR FR c0 c1 c2 c3
    refine (C HM.out ⟨ao, ko, ah, kh, ac, kc⟩ _ _ w3 I3.1 BB).mono ?_; rintro e w4 ⟨Q4, rfl, B4, X4⟩
    have z4 := X4.size
    have I4 := I3.keepB (B := wr.heap.size) (X4.only.below (fun k q => by subst q; exact Nat.le_refl _) (by omega)) (by omega)
    have QG : Hid (∀ k, Q4 k → wr.heap.size ≤ k) := Lib.hid fun k q => by rcases X4.grow k q with q | q <;> omega
    have lg4 : wr.heap.size < w4.heap.size := by omega
    clear BB X4 I3 C A
    go_wp2_with fail
    have SB := systemB_any w.heap.size wr.heap.size ⟨ao, ko, ah, kh, ac, kc⟩ s bd Q4 o l h w4 B4 (ts.keep I4.1 hh) (by have := I4.2.1; omega) sm nb
    have zw := I4.2.1
    clear ts e3
    cases hb : bOk bd
    · rw [hb] at SB
      refine SB.mono ?_; rintro e w6 ⟨ui, uo, uh, uc, F, rfl, f6, S6, hF⟩
      obtain ⟨xo, jo, xh, jh, xc, jc, rfl, rfl, rfl, rfl, -⟩ := id S6.shape
      have z6 := f6.size
      have I6 := I4.keep f6
      clear I4 SB B4
      obtain ⟨b6, z6', -, BR2, ⟨y0, y1', y2', y3⟩⟩ := id I6
      have hF1 : ¬ F (w.heap.size + 1) := fun q => by rcases hF _ q with q | q; have := QG.out _ q; omega; omega
      clear I6
      obtain ⟨r0, r1, r2, r3⟩ := id BR2
      have lA : w.heap.size + 1 < w6.heap.size := by omega
      go_wp2_with fail
      obtain ⟨t0, t1, t2, t3⟩ := BR2.copied (.int .i64 (bSys s bd).ins) (.slice xo (bSys s bd).outs.length jo) (.slice xh (bSys s bd).hints.length jh) (.slice xc (bSys s bd).cons.length jc)
      have S7 := S6.agree (sameF_sets w6 (.int .i64 (bSys s bd).ins) (.slice xo (bSys s bd).outs.length jo) (.slice xh (bSys s bd).hints.length jh) (.slice xc (bSys s bd).cons.length jc) hF1) (by simp)
      generalize hY : World.setCell _ ⟨w.heap.size + 1, 3, none⟩ _ = Y at *
      have bY : Below w.heap.size w Y := by rw [← hY]; (repeat (with_reducible first | exact bR _ _ | assumption | refine bD ?_ | refine bN ?_ _ | refine bA ?_ _ | refine bS ?_ _))
      exact bodyPost_ret (v := .tuple #[.agg #[.int .i64 (bSys s bd).ins, .slice xo (bSys s bd).outs.length jo, .slice xh (bSys s bd).hints.length jh, .slice xc (bSys s bd).cons.length jc], .bool false, .bool false]) (by simp [results, Try.results60, go_sem, alloc_keep (o := (.cells #[.int .i64 (bSys s bd).ins, .slice xo (bSys s bd).outs.length jo, .slice xh (bSys s bd).hints.length jh, .slice xc (bSys s bd).cons.length jc] 31)) t0, alloc_keep (o := (.cells #[.int .i64 (bSys s bd).ins, .slice xo (bSys s bd).outs.length jo, .slice xh (bSys s bd).hints.length jh, .slice xc (bSys s bd).cons.length jc] 31)) t1, alloc_keep (o := (.cells #[.int .i64 (bSys s bd).ins, .slice xo (bSys s bd).outs.length jo, .slice xh (bSys s bd).hints.length jh, .slice xc (bSys s bd).cons.length jc] 31)) t2, alloc_keep (o := (.cells #[.int .i64 (bSys s bd).ins, .slice xo (bSys s bd).outs.length jo, .slice xh (bSys s bd).hints.length jh, .slice xc (bSys s bd).cons.length jc] 31)) t3]) rfl (ExtB.of (by rw [Ho.out, HM.out, hb]; rfl) (by rw [Hr.out, HM.out]; rfl) (balloc (by have := bY.size; omega) bY _) (S7.agree (SameF.of_below (Below.alloc (Below.refl _ _) (Nat.le_refl _) _) (fun k q => S7.lim k q)) (by simp)) (fun k q => by rcases hF _ q with q | q; have := QG.out _ q; omega; omega))
    rw [hb] at SB
    refine SB.mono ?_; rintro e w6 ⟨ui, uo, uh, uc, F, rfl, f6, S6, hF⟩
    obtain ⟨xo, jo, xh, jh, xc, jc, rfl, rfl, rfl, rfl, -⟩ := id S6.shape
    have z6 := f6.size
    have I6 := I4.keep f6
    clear I4 SB B4
    obtain ⟨b6, z6', -, BR2, ⟨y0, y1', y2', y3⟩⟩ := id I6
    have hF1 : ¬ F (w.heap.size + 1) := fun q => by rcases hF _ q with q | q; have := QG.out _ q; omega; omega
    clear I6
    obtain ⟨r0, r1, r2, r3⟩ := id BR2
    have lA : w.heap.size + 1 < w6.heap.size := by omega
    go_wp2_with fail
    obtain ⟨t0, t1, t2, t3⟩ := BR2.copied (.int .i64 (bSys s bd).ins) (.slice xo (bSys s bd).outs.length jo) (.slice xh (bSys s bd).hints.length jh) (.slice xc (bSys s bd).cons.length jc)
    have S7 := S6.agree (sameF_sets w6 (.int .i64 (bSys s bd).ins) (.slice xo (bSys s bd).outs.length jo) (.slice xh (bSys s bd).hints.length jh) (.slice xc (bSys s bd).cons.length jc) hF1) (by simp)
    generalize hY : World.setCell _ ⟨w.heap.size + 1, 3, none⟩ _ = Y at *
    have bY : Below w.heap.size w Y := by rw [← hY]; (repeat (with_reducible first | exact bR _ _ | assumption | refine bD ?_ | refine bN ?_ _ | refine bA ?_ _ | refine bS ?_ _))
    exact bodyPost_ret (v := .tuple #[.agg #[.int .i64 (bSys s bd).ins, .slice xo (bSys s bd).outs.length jo, .slice xh (bSys s bd).hints.length jh, .slice xc (bSys s bd).cons.length jc], .bool true, .bool true]) (by simp [results, Try.results60, go_sem, alloc_keep (o := (.cells #[.int .i64 (bSys s bd).ins, .slice xo (bSys s bd).outs.length jo, .slice xh (bSys s bd).hints.length jh, .slice xc (bSys s bd).cons.length jc] 31)) t0, alloc_keep (o := (.cells #[.int .i64 (bSys s bd).ins, .slice xo (bSys s bd).outs.length jo, .slice xh (bSys s bd).hints.length jh, .slice xc (bSys s bd).cons.length jc] 31)) t1, alloc_keep (o := (.cells #[.int .i64 (bSys s bd).ins, .slice xo (bSys s bd).outs.length jo, .slice xh (bSys s bd).hints.length jh, .slice xc (bSys s bd).cons.length jc] 31)) t2, alloc_keep (o := (.cells #[.int .i64 (bSys s bd).ins, .slice xo (bSys s bd).outs.length jo, .slice xh (bSys s bd).hints.length jh, .slice xc (bSys s bd).cons.length jc] 31)) t3]) rfl (ExtB.of (by rw [Ho.out, HM.out, hb]; rfl) (by rw [Hr.out, HM.out]; rfl) (balloc (by have := bY.size; omega) bY _) (S7.agree (SameF.of_below (Below.alloc (Below.refl _ _) (Nat.le_refl _) _) (fun k q => S7.lim k q)) (by simp)) (fun k q => by rcases hF _ q with q | q; have := QG.out _ q; omega; omega))
end Go.Proofs.Ytghjcedhoeoiiaa.L

/- A system extended by what has no result (constrained). -/
namespace Go.Proofs.Ytghjcedhoeoiiaa.L
open Go.RowKit Go.Proofs.Ytghjcedhoeoiiaa.S
set_option linter.unusedVariables false
set_option linter.unusedSimpArgs false

set_option maxRecDepth 100000 in
theorem enter_constr1 : ∀ args w, (callFunc 61 args).run Try.prog w = .ok (.enter 61 args) w := fun args w => Go.MuLone.run_callFunc_enter (fn := Try.f61) (by kernel_rfl) (by kernel_rfl) rfl args w

set_option maxRecDepth 100000 in
set_option maxHeartbeats 800000 in
theorem constr1_any (f : Nat) (caps : Array Value) (eg : ∀ args w, (callFunc f args).run Try.prog w = .ok (.enter f args) w) (base g : Nat) (gv : Gv) (s : SysC) (b : Bd) (Q : Nat → Prop) (pb : Nat) (w : World) (cb : w.cell? ⟨pb, 0, none⟩ = some (.func (.func f) #[] caps))
    (C : Calls Try.prog f (#[.pointer (some ⟨g, 0, none⟩)] ++ caps) w (RetB base g gv s b Q w)) :
    Calls Try.prog 61 #[.pointer (some ⟨g, 0, none⟩), .pointer (some ⟨pb, 0, none⟩)] w (RetT base g gv s b Q w) := by
  go_enter Try.func61, Try.ntmps61
  go_wp2_with fail
  refine C.mono ?_; rintro e w2 ⟨Q', rfl, B2, X2⟩
  go_wp2_with fail
  exact bodyPost_ret (v := .bool true) (by simp [results, Try.results61, go_sem]) rfl ⟨Q', rfl, B2, X2⟩

/-- The answer: a new system, and whether. -/
def ExtC (ok : Bool) (r : SysC) (w : World) (e : Ending) (w' : World) : Prop :=
  ∃ ui uo uh uc F, e = .returned (.tuple #[.agg #[ui, uo, uh, uc], .bool ok]) ∧ Below w.heap.size w w' ∧ SysF F w' ui uo uh uc r ∧ (∀ k, F k → w.heap.size ≤ k)

set_option maxRecDepth 100000 in
set_option maxHeartbeats 1600000 in
theorem constr_any (f : Nat) (caps : Array Value) (o l h vi vo vh vc) (s : SysC) (ab cap : Nat) (ls : List (List T)) (bd : Bd) (w : World) (ts : SysR o l h w vi vo vh vc s) (hh : h ≤ w.heap.size)
    (sm : Small s) (A : ArgsL w ab ls) (na : ls.length ≤ 16) (nca : ls.length ≤ cap) (ncb : cap ≤ 9223372036854775807) (nb : bd.n ≤ 1000000)
    (eg : ∀ args w, (callFunc f args).run Try.prog w = .ok (.enter f args) w)
    (C : mayL s ls = true → ∀ base gv g Q w', w.heap.size ≤ base → Below w.heap.size w w' → Bld base g gv s ⟨[], [], 0⟩ Q w' → Calls Try.prog f (#[.pointer (some ⟨g, 0, none⟩)] ++ caps) w' (RetB base g gv s bd Q w'))
    (ok : Bool) (r : SysC) (Ho : Hid (ok = (mayL s ls && bOk bd))) (Hr : Hid (r = if mayL s ls = true then bSys s bd else sys0)) :
    Calls Try.prog 29 #[.agg #[vi, vo, vh, vc], .slice (some ⟨ab, 0, none⟩) ls.length cap, .func (.func f) #[] caps] w (ExtC ok r w) := by
  obtain ⟨ao, ko, ah, kh, ac, kc, rfl, rfl, rfl, rfl, lo, bo, lh, bh, lc, bc, fi⟩ := id ts.shape
  go_enter Try.func29, Try.ntmps29
  go_wp2_with fail
  refine name_call fun w1 hw1 => ?_
  have e1 : Below w.heap.size w w1 := by rw [hw1]; (repeat (with_reducible first | exact bR _ _ | assumption | refine bD ?_ | refine bN ?_ _ | refine bA ?_ _ | refine bS ?_ _))
  have z1 : w.heap.size + 3 ≤ w1.heap.size := by rw [hw1]; simp
  have cF : w1.cell? ⟨w.heap.size + 1, 0, none⟩ = some (.func (.func f) #[] caps) := by rw [hw1]; first | (simp; done) | go_simp
  have BR : Box4 w1 (w.heap.size + 1 + 1) (.int .i64 0) (.slice none 0 0) (.slice none 0 0) (.slice none 0 0) := ⟨by rw [hw1]; first | (simp; done) | go_simp, by rw [hw1]; first | (simp; done) | go_simp, by rw [hw1]; first | (simp; done) | go_simp, by rw [hw1]; first | (simp; done) | go_simp⟩
  have FR : Free4 w1 (w.heap.size + 1 + 1) := ⟨by rw [hw1]; first | (simp; done) | go_simp, by rw [hw1]; first | (simp; done) | go_simp, by rw [hw1]; first | (simp; done) | go_simp, by rw [hw1]; first | (simp; done) | go_simp⟩
  clear hw1
  have C1 : mayL s ls = true → ∀ gv g Q w', Below w1.heap.size w1 w' → Bld w1.heap.size g gv s ⟨[], [], 0⟩ Q w' → Calls Try.prog 61 (#[.pointer (some ⟨g, 0, none⟩)] ++ #[.pointer (some ⟨w.heap.size + 1, 0, none⟩)]) w' (RetT w1.heap.size g gv s bd Q w') := fun hm gv g Q w' b B =>
    constr1_any f caps eg w1.heap.size g gv s bd Q (w.heap.size + 1) w' (cell_keep b cF) (C hm w1.heap.size gv g Q w' (by omega) (e1.trans (b.mono (by omega))) B)
  refine (extB_any 61 _ o l h _ _ _ _ s ab cap ls bd w1 (ts.keep e1 hh) (Nat.le_trans hh e1.size) sm (A.keep e1) na nca ncb nb enter_constr1 C1 ok r Ho Hr).mono ?_; rintro e w2 ⟨ui, uo, uh, uc, F, rfl, f2, S2, hF⟩
  obtain ⟨xo, jo, xh, jh, xc, jc, rfl, rfl, rfl, rfl, -⟩ := id S2.shape
  have z2 := f2.size
  have BR2 := BR.keep f2 (by omega)
  obtain ⟨y0, y1, y2, y3⟩ := FR.keep f2 (by omega)
  obtain ⟨r0, r1, r2, r3⟩ := id BR2
  have lA : w.heap.size + 1 + 1 < w2.heap.size := by omega
  have e2 : Below w.heap.size w w2 := e1.trans (f2.mono (by omega))
  have hF1 : ¬ F (w.heap.size + 1 + 1) := fun q => by have := hF _ q; omega
  obtain ⟨q0, q1, q2, q3⟩ := BR2.copied (.int .i64 r.ins) (.slice xo r.outs.length jo) (.slice xh r.hints.length jh) (.slice xc r.cons.length jc)
  have S7 := S2.agree (sameF_sets w2 (.int .i64 r.ins) (.slice xo r.outs.length jo) (.slice xh r.hints.length jh) (.slice xc r.cons.length jc) hF1) (by simp)
  clear BR FR A C C1 ts
  go_wp2_with fail
  generalize hY : World.setCell _ ⟨w.heap.size + 1 + 1, 3, none⟩ _ = Y at *
  have bY : Below w.heap.size w Y := by rw [← hY]; (repeat (with_reducible first | exact bR _ _ | assumption | refine bD ?_ | refine bN ?_ _ | refine bA ?_ _ | refine bS ?_ _))
  exact bodyPost_ret (v := .tuple #[.agg #[.int .i64 r.ins, .slice xo r.outs.length jo, .slice xh r.hints.length jh, .slice xc r.cons.length jc], .bool ok]) (by simp [results, Try.results29, go_sem, alloc_keep (o := (.cells #[.int .i64 r.ins, .slice xo r.outs.length jo, .slice xh r.hints.length jh, .slice xc r.cons.length jc] 31)) q0, alloc_keep (o := (.cells #[.int .i64 r.ins, .slice xo r.outs.length jo, .slice xh r.hints.length jh, .slice xc r.cons.length jc] 31)) q1, alloc_keep (o := (.cells #[.int .i64 r.ins, .slice xo r.outs.length jo, .slice xh r.hints.length jh, .slice xc r.cons.length jc] 31)) q2, alloc_keep (o := (.cells #[.int .i64 r.ins, .slice xo r.outs.length jo, .slice xh r.hints.length jh, .slice xc r.cons.length jc] 31)) q3]) rfl ⟨_, _, _, _, F, rfl, balloc (by have := bY.size; omega) bY _, S7.agree (SameF.of_below (Below.alloc (Below.refl _ _) (Nat.le_refl _) _) (fun k q => S7.lim k q)) (by simp), fun k q => by have := hF k q; omega⟩
end Go.Proofs.Ytghjcedhoeoiiaa.L

/- AddEq and AddBool: the program (written by tools/gen/addeq.py). -/
namespace Go.Proofs.Ytghjcedhoeoiiaa.L
open Go.RowKit Go.Proofs.Ytghjcedhoeoiiaa.S
set_option linter.unusedVariables false
set_option linter.unusedSimpArgs false

set_option maxRecDepth 100000 in
theorem enter_AddEq1 : ∀ args w, (callFunc 32 args).run Try.prog w = .ok (.enter 32 args) w := fun args w => Go.MuLone.run_callFunc_enter (fn := Try.f32) (by kernel_rfl) (by kernel_rfl) rfl args w
set_option maxRecDepth 100000 in
set_option maxHeartbeats 1600000 in
theorem addEq1_any (base g : Nat) (gv : Gv) (s : SysC) (b : Bd) (Q : Nat → Prop) (ox : Bool) (px : Nat) (vx : Value) (x : List T) (oy : Bool) (py : Nat) (vy : Value) (y : List T) (w : World) (B : Bld base g gv s b Q w) (cx : w.cell? ⟨px, 0, none⟩ = some vx) (cy : w.cell? ⟨py, 0, none⟩ = some vy) (tx : OutL ox Q w vx x) (ty : OutL oy Q w vy y)
    (nx : x.length ≤ 1048576) (ny : y.length ≤ 1048576) (nc : s.cons.length ≤ 1048576) (nb : b.n ≤ 1000000) :
    Calls Try.prog 32 #[.pointer (some ⟨g, 0, none⟩), .pointer (some ⟨px, 0, none⟩), .pointer (some ⟨py, 0, none⟩)] w (RetB base g gv s (eqB s b x y) Q w) := by
  obtain ⟨ax, kx, rfl, lx, mbx⟩ := tx.shape
  obtain ⟨ay, ky, rfl, ly, mby⟩ := ty.shape
  have LQ := Lib.hid B.lim
  have lpx : px < w.heap.size := World.block_lt_of_cell? _ _ cx
  have lpy : py < w.heap.size := World.block_lt_of_cell? _ _ cy
  go_enter Try.func32, Try.ntmps32
  go_wp2_with fail
  refine (equalB_any base g gv s b Q ox oy _ _ x y w B tx ty nc nb).mono ?_; rintro e w2 ⟨Q', rfl, B2, X2⟩
  clear B tx ty
  go_wp2_with fail
  first | go_end0 | (simp only [Exit.inBlock, Exit.then]; refine bodyPost_ret (results_none rfl _ _ _) rfl ?_) | refine bodyPost_ret (results_none rfl _ _ _) rfl ?_
  exact RetB.of rfl B2 X2

set_option maxRecDepth 100000 in
set_option maxHeartbeats 3200000 in
theorem addEq_impl (o l h vi vo vh vc) (s : SysC) (ox lx hx vx) (x : List T) (oy ly hy vy) (y : List T) (w : World) (ts : SysR o l h w vi vo vh vc s) (hh : h ≤ w.heap.size) (sm : Small s) (tx : Terms ox lx hx w vx x) (hhx : hx ≤ w.heap.size) (ty : Terms oy ly hy w vy y) (hhy : hy ≤ w.heap.size) (nx : x.length ≤ 1048576) (ny : y.length ≤ 1048576)
    (ok : Bool) (r : SysC) (Ho : Hid (ok = (mayL s [x, y] && bOk (eqB s ⟨[], [], 0⟩ x y)))) (Hr : Hid (r = if mayL s [x, y] = true then bSys s (eqB s ⟨[], [], 0⟩ x y) else sys0)) :
    Calls Try.prog 13 #[.agg #[vi, vo, vh, vc], .agg #[vx], .agg #[vy]] w (ExtC ok r w) := by
  obtain ⟨ao, ko, ah, kh, ac, kc, rfl, rfl, rfl, rfl, lo, bo, lh, bh, lc, bc, fi⟩ := id ts.shape
  obtain ⟨ax, kx, rfl, qx, mbx⟩ := tx.shape
  obtain ⟨ay, ky, rfl, qy, mby⟩ := ty.shape
  have hEnter := enter_AddEq1
  go_enter Try.func13, Try.ntmps13
  go_wp2_with fail
  refine name_call fun w1 hw1 => ?_
  have e1 : Below w.heap.size w w1 := by rw [hw1]; (repeat (with_reducible first | exact bR _ _ | assumption | refine bD ?_ | refine bN ?_ _ | refine bA ?_ _ | refine bS ?_ _))
  have z1 : w.heap.size + 5 ≤ w1.heap.size := by rw [hw1]; simp
  have cx : w1.cell? ⟨w.heap.size + 1, 0, none⟩ = some (.slice ax x.length kx) := by rw [hw1]; first | (simp; done) | go_simp
  have cy : w1.cell? ⟨w.heap.size + 1 + 1, 0, none⟩ = some (.slice ay y.length ky) := by rw [hw1]; first | (simp; done) | go_simp
  have BR : Box4 w1 (w.heap.size + 1 + 1 + 1) (.int .i64 0) (.slice none 0 0) (.slice none 0 0) (.slice none 0 0) := ⟨by rw [hw1]; first | (simp; done) | go_simp, by rw [hw1]; first | (simp; done) | go_simp, by rw [hw1]; first | (simp; done) | go_simp, by rw [hw1]; first | (simp; done) | go_simp⟩
  have FR : Free4 w1 (w.heap.size + 1 + 1 + 1) := ⟨by rw [hw1]; first | (simp; done) | go_simp, by rw [hw1]; first | (simp; done) | go_simp, by rw [hw1]; first | (simp; done) | go_simp, by rw [hw1]; first | (simp; done) | go_simp⟩
  have ex : w1.cell? ⟨w.heap.size + 1 + 1 + 1 + 1, 0, none⟩ = some (.slice ax x.length kx) := by rw [hw1]; first | (simp; done) | go_simp
  have ey : w1.cell? ⟨w.heap.size + 1 + 1 + 1 + 1, 1, none⟩ = some (.slice ay y.length ky) := by rw [hw1]; first | (simp; done) | go_simp
  clear hw1
  have ux := tx.keep e1 hhx
  have uy := ty.keep e1 hhy
  have A : ArgsL w1 (w.heap.size + 1 + 1 + 1 + 1) [x, y] := ⟨by omega, fun j hj => by
    match j, hj with
    | 0, _ => exact ⟨_, ex, (OutL.arg (Q := fun _ => False) ux (Nat.le_trans hhx e1.size) (Nat.le_refl _) (fun _ q => q.elim)).read⟩
    | 1, _ => exact ⟨_, ey, (OutL.arg (Q := fun _ => False) uy (Nat.le_trans hhy e1.size) (Nat.le_refl _) (fun _ q => q.elim)).read⟩⟩
  have C : mayL s [x, y] = true → ∀ base gv g Q w', w1.heap.size ≤ base → Below w1.heap.size w1 w' → Bld base g gv s ⟨[], [], 0⟩ Q w' → Calls Try.prog 32 (#[.pointer (some ⟨g, 0, none⟩)] ++ #[.pointer (some ⟨w.heap.size + 1, 0, none⟩), .pointer (some ⟨w.heap.size + 1 + 1, 0, none⟩)]) w' (RetB base g gv s (eqB s ⟨[], [], 0⟩ x y) Q w') := fun hm base gv g Q w' hb b B => by
    have hbz : base ≤ w'.heap.size := by have := B.1; have := B.glt; omega
    exact addEq1_any base g gv s ⟨[], [], 0⟩ Q  ox _ _ x oy _ _ y w' B (cell_keep b cx) (cell_keep b cy) (OutL.arg (ux.keep b (Nat.le_trans hhx e1.size)) (Nat.le_trans hhx (Nat.le_trans e1.size hb)) hbz B.low) (OutL.arg (uy.keep b (Nat.le_trans hhy e1.size)) (Nat.le_trans hhy (Nat.le_trans e1.size hb)) hbz B.low) nx ny sm.2.2.1 (by simp)
  refine (constr_any 32 _ o l h _ _ _ _ s _ 2 [x, y] (eqB s ⟨[], [], 0⟩ x y) w1 (ts.keep e1 hh) (Nat.le_trans hh e1.size) sm A (by simp) (by simp) (by omega) (by unfold eqB bCon; simp) enter_AddEq1 C ok r Ho Hr).mono ?_; rintro e w2 ⟨ui, uo, uh, uc, F, rfl, f2, S2, hF⟩
  obtain ⟨xo, jo, xh, jh, xc, jc, rfl, rfl, rfl, rfl, -⟩ := id S2.shape
  have z2 := f2.size
  have BR2 := BR.keep f2 (by omega)
  obtain ⟨y0, y1, y2, y3⟩ := FR.keep f2 (by omega)
  obtain ⟨r0, r1, r2, r3⟩ := id BR2
  have lA : w.heap.size + 1 + 1 + 1 < w2.heap.size := by omega
  have e2 : Below w.heap.size w w2 := e1.trans (f2.mono (by omega))
  have hF1 : ¬ F (w.heap.size + 1 + 1 + 1) := fun q => by have := hF _ q; omega
  obtain ⟨q0, q1, q2, q3⟩ := BR2.copied (.int .i64 r.ins) (.slice xo r.outs.length jo) (.slice xh r.hints.length jh) (.slice xc r.cons.length jc)
  have S7 := S2.agree (sameF_sets w2 (.int .i64 r.ins) (.slice xo r.outs.length jo) (.slice xh r.hints.length jh) (.slice xc r.cons.length jc) hF1) (by simp)
  clear BR FR A C ts
  go_wp2_with fail
  generalize hY : World.setCell _ ⟨w.heap.size + 1 + 1 + 1, 3, none⟩ _ = Y at *
  have bY : Below w.heap.size w Y := by rw [← hY]; (repeat (with_reducible first | exact bR _ _ | assumption | refine bD ?_ | refine bN ?_ _ | refine bA ?_ _ | refine bS ?_ _))
  exact bodyPost_ret (v := .tuple #[.agg #[.int .i64 r.ins, .slice xo r.outs.length jo, .slice xh r.hints.length jh, .slice xc r.cons.length jc], .bool ok]) (by simp [results, Try.results13, go_sem, q0, q1, q2, q3]) rfl ⟨_, _, _, _, F, rfl, bY, S7, fun k q => by have := hF k q; omega⟩

set_option maxRecDepth 100000 in
theorem enter_AddBool1 : ∀ args w, (callFunc 30 args).run Try.prog w = .ok (.enter 30 args) w := fun args w => Go.MuLone.run_callFunc_enter (fn := Try.f30) (by kernel_rfl) (by kernel_rfl) rfl args w
set_option maxRecDepth 100000 in
set_option maxHeartbeats 1600000 in
theorem addBool1_any (base g : Nat) (gv : Gv) (s : SysC) (b : Bd) (Q : Nat → Prop) (ox : Bool) (px : Nat) (vx : Value) (x : List T) (w : World) (B : Bld base g gv s b Q w) (cx : w.cell? ⟨px, 0, none⟩ = some vx) (tx : OutL ox Q w vx x)
    (nx : x.length ≤ 1048576) (nc : s.cons.length ≤ 1048576) (nb : b.n ≤ 1000000) :
    Calls Try.prog 30 #[.pointer (some ⟨g, 0, none⟩), .pointer (some ⟨px, 0, none⟩)] w (RetB base g gv s (boolB s b x) Q w) := by
  obtain ⟨ax, kx, rfl, lx, mbx⟩ := tx.shape
  have LQ := Lib.hid B.lim
  have lpx : px < w.heap.size := World.block_lt_of_cell? _ _ cx
  go_enter Try.func30, Try.ntmps30
  go_wp2_with fail
  refine (booleanB_any base g gv s b Q ox _ x w B tx nx nc nb).mono ?_; rintro e w2 ⟨Q', rfl, B2, X2⟩
  clear B tx
  go_wp2_with fail
  first | go_end0 | (simp only [Exit.inBlock, Exit.then]; refine bodyPost_ret (results_none rfl _ _ _) rfl ?_) | refine bodyPost_ret (results_none rfl _ _ _) rfl ?_
  exact RetB.of rfl B2 X2

set_option maxRecDepth 100000 in
set_option maxHeartbeats 3200000 in
theorem addBool_impl (o l h vi vo vh vc) (s : SysC) (ox lx hx vx) (x : List T) (w : World) (ts : SysR o l h w vi vo vh vc s) (hh : h ≤ w.heap.size) (sm : Small s) (tx : Terms ox lx hx w vx x) (hhx : hx ≤ w.heap.size) (nx : x.length ≤ 1048576)
    (ok : Bool) (r : SysC) (Ho : Hid (ok = (mayL s [x] && bOk (boolB s ⟨[], [], 0⟩ x)))) (Hr : Hid (r = if mayL s [x] = true then bSys s (boolB s ⟨[], [], 0⟩ x) else sys0)) :
    Calls Try.prog 11 #[.agg #[vi, vo, vh, vc], .agg #[vx]] w (ExtC ok r w) := by
  obtain ⟨ao, ko, ah, kh, ac, kc, rfl, rfl, rfl, rfl, lo, bo, lh, bh, lc, bc, fi⟩ := id ts.shape
  obtain ⟨ax, kx, rfl, qx, mbx⟩ := tx.shape
  have hEnter := enter_AddBool1
  go_enter Try.func11, Try.ntmps11
  go_wp2_with fail
  refine name_call fun w1 hw1 => ?_
  have e1 : Below w.heap.size w w1 := by rw [hw1]; (repeat (with_reducible first | exact bR _ _ | assumption | refine bD ?_ | refine bN ?_ _ | refine bA ?_ _ | refine bS ?_ _))
  have z1 : w.heap.size + 4 ≤ w1.heap.size := by rw [hw1]; simp
  have cx : w1.cell? ⟨w.heap.size + 1, 0, none⟩ = some (.slice ax x.length kx) := by rw [hw1]; first | (simp; done) | go_simp
  have BR : Box4 w1 (w.heap.size + 1 + 1) (.int .i64 0) (.slice none 0 0) (.slice none 0 0) (.slice none 0 0) := ⟨by rw [hw1]; first | (simp; done) | go_simp, by rw [hw1]; first | (simp; done) | go_simp, by rw [hw1]; first | (simp; done) | go_simp, by rw [hw1]; first | (simp; done) | go_simp⟩
  have FR : Free4 w1 (w.heap.size + 1 + 1) := ⟨by rw [hw1]; first | (simp; done) | go_simp, by rw [hw1]; first | (simp; done) | go_simp, by rw [hw1]; first | (simp; done) | go_simp, by rw [hw1]; first | (simp; done) | go_simp⟩
  have ex : w1.cell? ⟨w.heap.size + 1 + 1 + 1, 0, none⟩ = some (.slice ax x.length kx) := by rw [hw1]; first | (simp; done) | go_simp
  clear hw1
  have ux := tx.keep e1 hhx
  have A : ArgsL w1 (w.heap.size + 1 + 1 + 1) [x] := ⟨by omega, fun j hj => by
    match j, hj with
    | 0, _ => exact ⟨_, ex, (OutL.arg (Q := fun _ => False) ux (Nat.le_trans hhx e1.size) (Nat.le_refl _) (fun _ q => q.elim)).read⟩⟩
  have C : mayL s [x] = true → ∀ base gv g Q w', w1.heap.size ≤ base → Below w1.heap.size w1 w' → Bld base g gv s ⟨[], [], 0⟩ Q w' → Calls Try.prog 30 (#[.pointer (some ⟨g, 0, none⟩)] ++ #[.pointer (some ⟨w.heap.size + 1, 0, none⟩)]) w' (RetB base g gv s (boolB s ⟨[], [], 0⟩ x) Q w') := fun hm base gv g Q w' hb b B => by
    have hbz : base ≤ w'.heap.size := by have := B.1; have := B.glt; omega
    exact addBool1_any base g gv s ⟨[], [], 0⟩ Q  ox _ _ x w' B (cell_keep b cx) (OutL.arg (ux.keep b (Nat.le_trans hhx e1.size)) (Nat.le_trans hhx (Nat.le_trans e1.size hb)) hbz B.low) nx sm.2.2.1 (by simp)
  refine (constr_any 30 _ o l h _ _ _ _ s _ 1 [x] (boolB s ⟨[], [], 0⟩ x) w1 (ts.keep e1 hh) (Nat.le_trans hh e1.size) sm A (by simp) (by simp) (by omega) (by unfold boolB bCon; simp) enter_AddBool1 C ok r Ho Hr).mono ?_; rintro e w2 ⟨ui, uo, uh, uc, F, rfl, f2, S2, hF⟩
  obtain ⟨xo, jo, xh, jh, xc, jc, rfl, rfl, rfl, rfl, -⟩ := id S2.shape
  have z2 := f2.size
  have BR2 := BR.keep f2 (by omega)
  obtain ⟨y0, y1, y2, y3⟩ := FR.keep f2 (by omega)
  obtain ⟨r0, r1, r2, r3⟩ := id BR2
  have lA : w.heap.size + 1 + 1 < w2.heap.size := by omega
  have e2 : Below w.heap.size w w2 := e1.trans (f2.mono (by omega))
  have hF1 : ¬ F (w.heap.size + 1 + 1) := fun q => by have := hF _ q; omega
  obtain ⟨q0, q1, q2, q3⟩ := BR2.copied (.int .i64 r.ins) (.slice xo r.outs.length jo) (.slice xh r.hints.length jh) (.slice xc r.cons.length jc)
  have S7 := S2.agree (sameF_sets w2 (.int .i64 r.ins) (.slice xo r.outs.length jo) (.slice xh r.hints.length jh) (.slice xc r.cons.length jc) hF1) (by simp)
  clear BR FR A C ts
  go_wp2_with fail
  generalize hY : World.setCell _ ⟨w.heap.size + 1 + 1, 3, none⟩ _ = Y at *
  have bY : Below w.heap.size w Y := by rw [← hY]; (repeat (with_reducible first | exact bR _ _ | assumption | refine bD ?_ | refine bN ?_ _ | refine bA ?_ _ | refine bS ?_ _))
  exact bodyPost_ret (v := .tuple #[.agg #[.int .i64 r.ins, .slice xo r.outs.length jo, .slice xh r.hints.length jh, .slice xc r.cons.length jc], .bool ok]) (by simp [results, Try.results11, go_sem, q0, q1, q2, q3]) rfl ⟨_, _, _, _, F, rfl, bY, S7, fun k q => by have := hF k q; omega⟩

end Go.Proofs.Ytghjcedhoeoiiaa.L
