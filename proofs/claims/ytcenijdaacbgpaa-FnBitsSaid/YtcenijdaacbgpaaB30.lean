/- B30: ExtR AddR -/
import Derived.Test.YtcenijdaacbgpaaB19
import Derived.Test.YtcenijdaacbgpaaBBits
import Derived.Test.YtcenijdaacbgpaaB13
import Derived.Conc.MuLone
set_option linter.unusedVariables false
set_option linter.unusedSimpArgs false
/- A system extended by what a function literal adds, with a row of combinations as its result (written by tools/gen/extr.py). -/
namespace Go.Proofs.Ytcenijdaacbgpaa.L
open Go.RowKit Go.Proofs.Ytcenijdaacbgpaa.S
set_option linter.unusedVariables false
set_option linter.unusedSimpArgs false

theorem NewR.rowF {base : Nat} {Q : Nat → Prop} {w : World} {v : Value} {ls : List (List T)} (t : NewR base Q w v ls) : RowF FShape.lin (fun k => base ≤ k ∧ k < w.heap.size ∧ ¬ Q k) w v ls := by
  obtain ⟨R, F, g, h1, h2⟩ := t
  exact (RowF.of_grow g h1 (fun k hk => (h2 k (.inr hk)).2.1)).mono (fun k hk => h2 k hk)
/-- The answer: a system, a row of combinations, and whether there was room. -/
def ExtR (ok : Bool) (r : SysC) (v : List (List T)) (w : World) (e : Ending) (w' : World) : Prop :=
  ∃ ui uo uh uc u F G, e = .returned (.tuple #[.agg #[ui, uo, uh, uc], u, .bool ok]) ∧ Below w.heap.size w w' ∧ SysF F w' ui uo uh uc r ∧ RowF FShape.lin G w' u v ∧ (∀ k, F k → w.heap.size ≤ k) ∧ (∀ k, G k → w.heap.size ≤ k ∧ k < w'.heap.size ∧ ¬ F k)
theorem ExtR.of {ok ok' : Bool} {r r' : SysC} {v v' : List (List T)} {w w' : World} {ui uo uh uc u : Value} {F G : Nat → Prop} (e1 : ok' = ok) (e2 : r' = r) (e3 : v' = v) (h1 : Below w.heap.size w w') (h2 : SysF F w' ui uo uh uc r) (h3 : RowF FShape.lin G w' u v) (h4 : ∀ k, F k → w.heap.size ≤ k) (h5 : ∀ k, G k → w.heap.size ≤ k ∧ k < w'.heap.size ∧ ¬ F k) :
    ExtR ok' r' v' w (.returned (.tuple #[.agg #[ui, uo, uh, uc], u, .bool ok])) w' := by
  subst e1 e2 e3; exact ⟨ui, uo, uh, uc, u, F, G, rfl, h1, h2, h3, h4, h5⟩

set_option maxRecDepth 100000 in
set_option maxHeartbeats 6400000 in
theorem extR_any (f : Nat) (caps : Array Value) (o l h vi vo vh vc) (s : SysC) (ab cap : Nat) (ls : List (List T)) (bd : Bd) (rv : List (List T)) (w : World) (ts : SysR o l h w vi vo vh vc s) (hh : h ≤ w.heap.size)
    (sm : Small s) (A : ArgsL w ab ls) (na : ls.length ≤ 16) (nca : ls.length ≤ cap) (ncb : cap ≤ 9223372036854775807) (nb : bd.n ≤ 1000000)
    (eg : ∀ args w, (callFunc f args).run Try.prog w = .ok (.enter f args) w)
    (C : mayL s ls = true → ∀ gv g Q w', Below w.heap.size w w' → Bld w.heap.size g gv s ⟨[], [], 0⟩ Q w' → Calls Try.prog f (#[.pointer (some ⟨g, 0, none⟩)] ++ caps) w' (RetR w.heap.size g gv s bd rv Q w'))
    (ok : Bool) (r : SysC) (v : List (List T)) (Ho : Hid (ok = (mayL s ls && bOk bd))) (Hr : Hid (r = if mayL s ls = true then bSys s bd else sys0)) (Hv : Hid (v = if (mayL s ls && bOk bd) = true then rv else [])) :
    Calls Try.prog 22 #[.agg #[vi, vo, vh, vc], .slice (some ⟨ab, 0, none⟩) ls.length cap, .func (.func f) #[] caps] w (ExtR ok r v w) := by
  obtain ⟨ao, ko, ah, kh, ac, kc, rfl, rfl, rfl, rfl, lo, bo, lh, bh, lc, bc, fi⟩ := id ts.shape
  have no := sm.1
  have nh := sm.2.1
  have nc := sm.2.2.1
  go_enter Try.func22, Try.ntmps22
  go_wp2_with fail
  refine name_call fun w1 hw1 => ?_
  have I1 : InB w w1 s ao ko ah kh ac kc := ⟨by rw [hw1]; (repeat (with_reducible first | exact bR _ _ | assumption | refine bD ?_ | refine bN ?_ _ | refine bA ?_ _ | refine bS ?_ _)), by rw [hw1]; simp, ⟨by rw [hw1]; first | (simp; done) | go_simp, by rw [hw1]; first | (simp; done) | go_simp, by rw [hw1]; first | (simp; done) | go_simp, by rw [hw1]; first | (simp; done) | go_simp⟩, ⟨by rw [hw1]; first | (simp; done) | go_simp, by rw [hw1]; first | (simp; done) | go_simp, by rw [hw1]; first | (simp; done) | go_simp, by rw [hw1]; first | (simp; done) | go_simp⟩, ⟨by rw [hw1]; first | (simp; done) | go_simp, by rw [hw1]; first | (simp; done) | go_simp, by rw [hw1]; first | (simp; done) | go_simp, by rw [hw1]; first | (simp; done) | go_simp⟩⟩
  clear hw1
  cases hk : sysOk s
  · have HM : Hid (mayL s ls = false) := Lib.hid (by unfold mayL; rw [hk]; rfl)
    refine (sysOk_implb o l h _ _ _ _ s _ (ts.keep I1.1 hh) (by have := I1.2.1; omega) nh no nc false hk).mono ?_; rintro e w2 ⟨rfl, f2⟩
    obtain ⟨b2, z2, -, BR2, ⟨y0, y1', y2', y3⟩⟩ := I1.keep f2
    obtain ⟨r0, r1, r2, r3⟩ := id BR2
    have lA : w.heap.size + 1 < w2.heap.size := by omega
    go_wp2_with fail
    obtain ⟨t0, t1, t2, t3⟩ := BR2.copied (.int .i64 0) (.slice none 0 0) (.slice none 0 0) (.slice none 0 0)
    exact bodyPost_ret (v := .tuple #[.agg #[.int .i64 0, .slice none 0 0, .slice none 0 0, .slice none 0 0], .slice none 0 0, .bool false]) (by simp [results, Try.results22, go_sem, t0, t1, t2, t3]) rfl (ExtR.of (by rw [Ho.out, HM.out]; rfl) (by rw [Hr.out, HM.out]; rfl) (by rw [Hv.out, HM.out]; rfl) (by (repeat (with_reducible first | exact bR _ _ | assumption | refine bD ?_ | refine bN ?_ _ | refine bA ?_ _ | refine bS ?_ _))) (SysF.zero _) (RowF.nil FShape.lin (fun _ => False) _) (fun _ q => q.elim) (fun _ q => q.elim))
  have lim := limB_facts (sysOk_limB hk)
  refine (sysOk_implb o l h _ _ _ _ s _ (ts.keep I1.1 hh) (by have := I1.2.1; omega) nh no nc true hk).mono ?_; rintro e w2 ⟨rfl, f2⟩
  have I2 := I1.keep f2
  clear I1 f2
  go_wp2_with fail
  go_loopw [23] (fun i wr => ∃ k : Nat, k ≤ ls.length ∧ i = .int .i64 k ∧ InB w wr s ao ko ah kh ac kc ∧ (∀ j (hj : j < ls.length), j < k → linW (1 + s.ins + (s.hints.length : Int)) ls[j] = true)) (fun i _ => ls.length - (intOf i).toNat)
  case atStart => exact ⟨0, Nat.zero_le _, rfl, I2, fun j _ hj => by omega⟩
  case round =>
    clear I2
    obtain ⟨k, hk', rfl, I, hq⟩ := hrel
    obtain ⟨b1, z1, ⟨c0, c1, c2, c3⟩, BR, FR⟩ := id I
    have HQ := Lib.hid hq
    clear hq
    by_cases hlt : k < ls.length
    · obtain ⟨u, cu, tu⟩ := (A.keep b1).2 k hlt
      obtain ⟨x, kx, rfl, lx, bx⟩ := tu.shape
      have la : ab < wr.heap.size := World.block_lt_of_cell? _ _ cu
      cases hW : linW (1 + s.ins + (s.hints.length : Int)) ls[k]
      · have HM : Hid (mayL s ls = false) := Lib.hid (allL_stop hlt hW)
        have HW := Lib.hid hW
        clear hW
        go_wp2_with fail
        refine name_wp fun wp hwp => ?_
        have ep : Below wr.heap.size wr wp := by rw [hwp]; (repeat (with_reducible first | exact bR _ _ | assumption | refine bD ?_ | refine bN ?_ _ | refine bA ?_ _ | refine bS ?_ _))
        have zp : wr.heap.size + 1 ≤ wp.heap.size := by rw [hwp]; simp
        have cX : wp.cell? ⟨wr.heap.size, 0, none⟩ = some (.slice x ls[k].length kx) := by rw [hwp]; first | (simp; done) | go_simp
        clear hwp
        have d0 := cell_keep ep c0
        have d1 := cell_keep ep c1
        have d2 := cell_keep ep c2
        have d3 := cell_keep ep c3
        have tp := tu.keep ep (Nat.le_refl _)
        have dz : Below wp.heap.size wp wp.drew := (Below.refl _ _).drew
        have KK : Hid (∀ w', Below wp.heap.size wp w' → w'.cell? ⟨wr.heap.size, 0, none⟩ = some (.slice x ls[k].length kx) ∧ w'.cell? ⟨w.heap.size, 0, none⟩ = some (.int .i64 s.ins) ∧ w'.cell? ⟨w.heap.size, 1, none⟩ = some (.slice ao s.outs.length ko) ∧ w'.cell? ⟨w.heap.size, 2, none⟩ = some (.slice ah s.hints.length kh) ∧ w'.cell? ⟨w.heap.size, 3, none⟩ = some (.slice ac s.cons.length kc)) := Lib.hid fun w' h => ⟨cell_keep h cX, cell_keep h d0, cell_keep h d1, cell_keep h d2, cell_keep h d3⟩
        have TT : Hid (∀ w', Below wp.heap.size wp w' → Terms false 0 wr.heap.size w' (.slice x ls[k].length kx) ls[k]) := Lib.hid fun w' h => tp.keep h (by omega)
        have IP := I.keep ep
        clear cX d0 d1 d2 d3 tp tu cu I b1 BR FR c0 c1 c2 c3 ep
        go_region_held3 (fun w' => w'.cell? ⟨wr.heap.size, 0, none⟩ = some (.slice x ls[k].length kx) ∧ w'.cell? ⟨w.heap.size, 0, none⟩ = some (.int .i64 s.ins) ∧ w'.cell? ⟨w.heap.size, 1, none⟩ = some (.slice ao s.outs.length ko) ∧ w'.cell? ⟨w.heap.size, 2, none⟩ = some (.slice ah s.hints.length kh) ∧ w'.cell? ⟨w.heap.size, 3, none⟩ = some (.slice ac s.cons.length kc)) (exact KK.out _ (by (repeat (with_reducible first | exact bR _ _ | assumption | refine bD ?_ | refine bN ?_ _ | refine bA ?_ _ | refine bS ?_ _))))
          (first
            | (go_at_call 42; (with_reducible refine (vars_any s ao ko ah kh ac kc _ lim.1 lim.2.1 nh).mono ?_); rintro e y1 ⟨rfl, j1⟩; have G1 : Below wp.heap.size wp y1 := Below.trans (by (repeat (with_reducible first | exact bR _ _ | assumption | refine bD ?_ | refine bN ?_ _ | refine bA ?_ _ | refine bS ?_ _))) (j1.mono (Below.size (B := wp.heap.size) (by (repeat (with_reducible first | exact bR _ _ | assumption | refine bD ?_ | refine bN ?_ _ | refine bA ?_ _ | refine bS ?_ _))))))
            | (go_at_call 41; (with_reducible refine (withinI_no false 0 wr.heap.size _ ls[k] _ _ (TT.out _ (by (repeat (with_reducible first | exact bR _ _ | assumption | refine bD ?_ | refine bN ?_ _ | refine bA ?_ _ | refine bS ?_ _)))) (Nat.le_trans (by omega : wr.heap.size ≤ wp.heap.size) (Below.size (B := wp.heap.size) (by (repeat (with_reducible first | exact bR _ _ | assumption | refine bD ?_ | refine bN ?_ _ | refine bA ?_ _ | refine bS ?_ _))))) HW.out).mono ?_); rintro e y2 ⟨rfl, j2⟩; have G2 : Below wp.heap.size wp y2 := Below.trans (by (repeat (with_reducible first | exact bR _ _ | assumption | refine bD ?_ | refine bN ?_ _ | refine bA ?_ _ | refine bS ?_ _))) (j2.mono (Below.size (B := wp.heap.size) (by (repeat (with_reducible first | exact bR _ _ | assumption | refine bD ?_ | refine bN ?_ _ | refine bA ?_ _ | refine bS ?_ _)))))))
        have IY := IP.keep G2
        obtain ⟨b2, z2, -, BR2, ⟨y0, y1', y2', y3⟩⟩ := id IY
        clear IY IP KK TT
        obtain ⟨r0, r1, r2, r3⟩ := id BR2
        have lA : w.heap.size + 1 < y2.heap.size := by omega
        go_wp2_with fail
        obtain ⟨t0, t1, t2, t3⟩ := BR2.copied (.int .i64 0) (.slice none 0 0) (.slice none 0 0) (.slice none 0 0)
        exact bodyPost_ret (v := .tuple #[.agg #[.int .i64 0, .slice none 0 0, .slice none 0 0, .slice none 0 0], .slice none 0 0, .bool false]) (by simp [results, Try.results22, go_sem, t0, t1, t2, t3]) rfl (ExtR.of (by rw [Ho.out, HM.out]; rfl) (by rw [Hr.out, HM.out]; rfl) (by rw [Hv.out, HM.out]; rfl) (by (repeat (with_reducible first | exact bR _ _ | assumption | refine bD ?_ | refine bN ?_ _ | refine bA ?_ _ | refine bS ?_ _))) (SysF.zero _) (RowF.nil FShape.lin (fun _ => False) _) (fun _ q => q.elim) (fun _ q => q.elim))
      have HW := Lib.hid hW
      clear hW
      go_wp2_with fail
      refine name_wp fun wp hwp => ?_
      have ep : Below wr.heap.size wr wp := by rw [hwp]; (repeat (with_reducible first | exact bR _ _ | assumption | refine bD ?_ | refine bN ?_ _ | refine bA ?_ _ | refine bS ?_ _))
      have zp : wr.heap.size + 1 ≤ wp.heap.size := by rw [hwp]; simp
      have cX : wp.cell? ⟨wr.heap.size, 0, none⟩ = some (.slice x ls[k].length kx) := by rw [hwp]; first | (simp; done) | go_simp
      clear hwp
      have d0 := cell_keep ep c0
      have d1 := cell_keep ep c1
      have d2 := cell_keep ep c2
      have d3 := cell_keep ep c3
      have tp := tu.keep ep (Nat.le_refl _)
      have dz : Below wp.heap.size wp wp.drew := (Below.refl _ _).drew
      have KK : Hid (∀ w', Below wp.heap.size wp w' → w'.cell? ⟨wr.heap.size, 0, none⟩ = some (.slice x ls[k].length kx) ∧ w'.cell? ⟨w.heap.size, 0, none⟩ = some (.int .i64 s.ins) ∧ w'.cell? ⟨w.heap.size, 1, none⟩ = some (.slice ao s.outs.length ko) ∧ w'.cell? ⟨w.heap.size, 2, none⟩ = some (.slice ah s.hints.length kh) ∧ w'.cell? ⟨w.heap.size, 3, none⟩ = some (.slice ac s.cons.length kc)) := Lib.hid fun w' h => ⟨cell_keep h cX, cell_keep h d0, cell_keep h d1, cell_keep h d2, cell_keep h d3⟩
      have TT : Hid (∀ w', Below wp.heap.size wp w' → Terms false 0 wr.heap.size w' (.slice x ls[k].length kx) ls[k]) := Lib.hid fun w' h => tp.keep h (by omega)
      have IP := I.keep ep
      clear cX d0 d1 d2 d3 tp tu cu I b1 BR FR c0 c1 c2 c3 ep
      go_region_held3 (fun w' => w'.cell? ⟨wr.heap.size, 0, none⟩ = some (.slice x ls[k].length kx) ∧ w'.cell? ⟨w.heap.size, 0, none⟩ = some (.int .i64 s.ins) ∧ w'.cell? ⟨w.heap.size, 1, none⟩ = some (.slice ao s.outs.length ko) ∧ w'.cell? ⟨w.heap.size, 2, none⟩ = some (.slice ah s.hints.length kh) ∧ w'.cell? ⟨w.heap.size, 3, none⟩ = some (.slice ac s.cons.length kc)) (exact KK.out _ (by (repeat (with_reducible first | exact bR _ _ | assumption | refine bD ?_ | refine bN ?_ _ | refine bA ?_ _ | refine bS ?_ _))))
        (first
          | (go_at_call 42; (with_reducible refine (vars_any s ao ko ah kh ac kc _ lim.1 lim.2.1 nh).mono ?_); rintro e y1 ⟨rfl, j1⟩; have G1 : Below wp.heap.size wp y1 := Below.trans (by (repeat (with_reducible first | exact bR _ _ | assumption | refine bD ?_ | refine bN ?_ _ | refine bA ?_ _ | refine bS ?_ _))) (j1.mono (Below.size (B := wp.heap.size) (by (repeat (with_reducible first | exact bR _ _ | assumption | refine bD ?_ | refine bN ?_ _ | refine bA ?_ _ | refine bS ?_ _))))))
          | (go_at_call 41; (with_reducible refine (withinI_yes false 0 wr.heap.size _ ls[k] _ _ (TT.out _ (by (repeat (with_reducible first | exact bR _ _ | assumption | refine bD ?_ | refine bN ?_ _ | refine bA ?_ _ | refine bS ?_ _)))) (Nat.le_trans (by omega : wr.heap.size ≤ wp.heap.size) (Below.size (B := wp.heap.size) (by (repeat (with_reducible first | exact bR _ _ | assumption | refine bD ?_ | refine bN ?_ _ | refine bA ?_ _ | refine bS ?_ _))))) HW.out).mono ?_); rintro e y2 ⟨rfl, j2⟩; have G2 : Below wp.heap.size wp y2 := Below.trans (by (repeat (with_reducible first | exact bR _ _ | assumption | refine bD ?_ | refine bN ?_ _ | refine bA ?_ _ | refine bS ?_ _))) (j2.mono (Below.size (B := wp.heap.size) (by (repeat (with_reducible first | exact bR _ _ | assumption | refine bD ?_ | refine bN ?_ _ | refine bA ?_ _ | refine bS ?_ _)))))))
      have IY := IP.keep G2
      clear IP KK TT
      go_wp2_with fail
      go_roundw
      case rel => exact ⟨k + 1, hlt, by go_num, by first | exact IY | exact IY.keep (Below.refl _ _).drew, fun j hj hjk => by
        by_cases e : j = k
        · subst e; exact HW.out
        · exact HQ.out j hj (by omega)⟩
      case measure => simp [intOf]; omega
    obtain rfl : k = ls.length := by omega
    have HM : Hid (mayL s ls = true) := Lib.hid (allL_done hk fun j hj => HQ.out j hj hj)
    go_wp2_with fail
    refine name_call fun w3 hw3 => ?_
    have e3 : Below wr.heap.size wr w3 := by rw [hw3]; (repeat (with_reducible first | exact bR _ _ | assumption | refine bD ?_ | refine bN ?_ _ | refine bA ?_ _ | refine bS ?_ _))
    have z3 : wr.heap.size + 1 ≤ w3.heap.size := by rw [hw3]; simp
    have G4 : Box4 w3 wr.heap.size (.int .i64 s.ins) (.slice ao s.outs.length ko) (.slice ah s.hints.length kh) (.slice ac s.cons.length kc) := ⟨by rw [hw3]; first | (simp; done) | go_simp, by rw [hw3]; first | (simp; done) | go_simp, by rw [hw3]; first | (simp; done) | go_simp, by rw [hw3]; first | (simp; done) | go_simp⟩
    have g4 : w3.cell? ⟨wr.heap.size, 4, none⟩ = some (.slice none 0 0) := by rw [hw3]; first | (simp; done) | go_simp
    have g5 : w3.cell? ⟨wr.heap.size, 5, none⟩ = some (.slice none 0 0) := by rw [hw3]; first | (simp; done) | go_simp
    have g6 : w3.cell? ⟨wr.heap.size, 6, none⟩ = some (.int .i64 0) := by rw [hw3]; first | (simp; done) | go_simp
    have gf : ∀ j, w3.frozen? ⟨wr.heap.size, j, none⟩ = false := by intro j; rw [hw3]; first | (simp; done) | go_simp
    clear hw3
    have I3 := I.keep e3
    have BB : Bld w.heap.size wr.heap.size ⟨ao, ko, ah, kh, ac, kc⟩ s ⟨[], [], 0⟩ (fun k => k = wr.heap.size) w3 := Bld.start (by omega) (by omega) G4 gf g4 g5 g6
    clear G4 g4 g5 g6 gf I b1 BR FR c0 c1 c2 c3
    refine (C HM.out ⟨ao, ko, ah, kh, ac, kc⟩ _ _ w3 I3.1 BB).mono ?_; rintro e w4 ⟨u, Q4, rfl, B4, N4, X4⟩
    obtain ⟨p, kp, rfl, lp, bp⟩ := N4.shape
    have N5 := N4.rowF
    have z4 := X4.size
    have I4 := I3.keepB (B := wr.heap.size) (X4.only.below (fun k q => by subst q; exact Nat.le_refl _) (by omega)) (by omega)
    have QG : Hid (∀ k, Q4 k → wr.heap.size ≤ k) := Lib.hid fun k q => by rcases X4.grow k q with q | q <;> omega
    have lg4 : wr.heap.size < w4.heap.size := by omega
    clear BB X4 I3 C A
    go_wp2_with fail
    have SB := systemB_any w.heap.size wr.heap.size ⟨ao, ko, ah, kh, ac, kc⟩ s bd Q4 o l h w4 B4 (ts.keep I4.1 hh) (by have := I4.2.1; omega) sm nb
    have zw := I4.2.1
    clear ts e3
    cases hb : bOk bd
    · rw [hb] at SB
      refine SB.mono ?_; rintro e w6 ⟨ui, uo, uh, uc, F, rfl, f6, S6, hF⟩
      obtain ⟨xo, jo, xh, jh, xc, jc, rfl, rfl, rfl, rfl, -⟩ := id S6.shape
      have z6 := f6.size
      have I6 := I4.keep f6
      clear I4 SB B4
      obtain ⟨b6, z6', -, BR2, ⟨y0, y1', y2', y3⟩⟩ := id I6
      have hF1 : ¬ F (w.heap.size + 1) := fun q => by rcases hF _ q with q | q; have := QG.out _ q; omega; omega
      clear I6
      obtain ⟨r0, r1, r2, r3⟩ := id BR2
      have lA : w.heap.size + 1 < w6.heap.size := by omega
      go_wp2_with fail
      obtain ⟨t0, t1, t2, t3⟩ := BR2.copied (.int .i64 (bSys s bd).ins) (.slice xo (bSys s bd).outs.length jo) (.slice xh (bSys s bd).hints.length jh) (.slice xc (bSys s bd).cons.length jc)
      have S7 := S6.agree (sameF_sets w6 (.int .i64 (bSys s bd).ins) (.slice xo (bSys s bd).outs.length jo) (.slice xh (bSys s bd).hints.length jh) (.slice xc (bSys s bd).cons.length jc) hF1) (by simp)
      generalize hY : World.setCell _ ⟨w.heap.size + 1, 3, none⟩ _ = Y at *
      have bY : Below w.heap.size w Y := by rw [← hY]; (repeat (with_reducible first | exact bR _ _ | assumption | refine bD ?_ | refine bN ?_ _ | refine bA ?_ _ | refine bS ?_ _))
      have zY : w4.heap.size ≤ Y.heap.size := by rw [← hY]; simp; omega
      exact bodyPost_ret (v := .tuple #[.agg #[.int .i64 (bSys s bd).ins, .slice xo (bSys s bd).outs.length jo, .slice xh (bSys s bd).hints.length jh, .slice xc (bSys s bd).cons.length jc], .slice none 0 0, .bool false]) (by simp [results, Try.results22, go_sem, alloc_keep (o := (.cells #[.int .i64 (bSys s bd).ins, .slice xo (bSys s bd).outs.length jo, .slice xh (bSys s bd).hints.length jh, .slice xc (bSys s bd).cons.length jc] 32)) t0, alloc_keep (o := (.cells #[.int .i64 (bSys s bd).ins, .slice xo (bSys s bd).outs.length jo, .slice xh (bSys s bd).hints.length jh, .slice xc (bSys s bd).cons.length jc] 32)) t1, alloc_keep (o := (.cells #[.int .i64 (bSys s bd).ins, .slice xo (bSys s bd).outs.length jo, .slice xh (bSys s bd).hints.length jh, .slice xc (bSys s bd).cons.length jc] 32)) t2, alloc_keep (o := (.cells #[.int .i64 (bSys s bd).ins, .slice xo (bSys s bd).outs.length jo, .slice xh (bSys s bd).hints.length jh, .slice xc (bSys s bd).cons.length jc] 32)) t3]) rfl (ExtR.of (by rw [Ho.out, HM.out, hb]; rfl) (by rw [Hr.out, HM.out]; rfl) (by rw [Hv.out, HM.out, hb]; rfl) (balloc (by have := bY.size; omega) bY _) (S7.agree (SameF.of_below (Below.alloc (Below.refl _ _) (Nat.le_refl _) _) (fun k q => S7.lim k q)) (by simp)) (RowF.nil FShape.lin (fun _ => False) _) (fun k q => by rcases hF _ q with q | q; have := QG.out _ q; omega; omega) (fun _ q => q.elim))
    rw [hb] at SB
    refine SB.mono ?_; rintro e w6 ⟨ui, uo, uh, uc, F, rfl, f6, S6, hF⟩
    obtain ⟨xo, jo, xh, jh, xc, jc, rfl, rfl, rfl, rfl, -⟩ := id S6.shape
    have z6 := f6.size
    have I6 := I4.keep f6
    clear I4 SB B4
    obtain ⟨b6, z6', -, BR2, ⟨y0, y1', y2', y3⟩⟩ := id I6
    have hF1 : ¬ F (w.heap.size + 1) := fun q => by rcases hF _ q with q | q; have := QG.out _ q; omega; omega
    clear I6
    obtain ⟨r0, r1, r2, r3⟩ := id BR2
    have lA : w.heap.size + 1 < w6.heap.size := by omega
    go_wp2_with fail
    obtain ⟨t0, t1, t2, t3⟩ := BR2.copied (.int .i64 (bSys s bd).ins) (.slice xo (bSys s bd).outs.length jo) (.slice xh (bSys s bd).hints.length jh) (.slice xc (bSys s bd).cons.length jc)
    have N6 := N5.agree (SameF.of_below f6 (fun k q => q.2.1)) z6
    have hG1 : ¬ (w3.heap.size ≤ w.heap.size + 1 ∧ w.heap.size + 1 < w4.heap.size ∧ ¬ Q4 (w.heap.size + 1)) := fun q => by have := q.1; omega
    have N7 := N6.agree (sameF_sets w6 (.int .i64 (bSys s bd).ins) (.slice xo (bSys s bd).outs.length jo) (.slice xh (bSys s bd).hints.length jh) (.slice xc (bSys s bd).cons.length jc) hG1) (by simp)
    have S7 := S6.agree (sameF_sets w6 (.int .i64 (bSys s bd).ins) (.slice xo (bSys s bd).outs.length jo) (.slice xh (bSys s bd).hints.length jh) (.slice xc (bSys s bd).cons.length jc) hF1) (by simp)
    generalize hY : World.setCell _ ⟨w.heap.size + 1, 3, none⟩ _ = Y at *
    have bY : Below w.heap.size w Y := by rw [← hY]; (repeat (with_reducible first | exact bR _ _ | assumption | refine bD ?_ | refine bN ?_ _ | refine bA ?_ _ | refine bS ?_ _))
    have zY : w4.heap.size ≤ Y.heap.size := by rw [← hY]; simp; omega
    exact bodyPost_ret (v := .tuple #[.agg #[.int .i64 (bSys s bd).ins, .slice xo (bSys s bd).outs.length jo, .slice xh (bSys s bd).hints.length jh, .slice xc (bSys s bd).cons.length jc], .slice p rv.length kp, .bool true]) (by simp [results, Try.results22, go_sem, alloc_keep (o := (.cells #[.int .i64 (bSys s bd).ins, .slice xo (bSys s bd).outs.length jo, .slice xh (bSys s bd).hints.length jh, .slice xc (bSys s bd).cons.length jc] 32)) t0, alloc_keep (o := (.cells #[.int .i64 (bSys s bd).ins, .slice xo (bSys s bd).outs.length jo, .slice xh (bSys s bd).hints.length jh, .slice xc (bSys s bd).cons.length jc] 32)) t1, alloc_keep (o := (.cells #[.int .i64 (bSys s bd).ins, .slice xo (bSys s bd).outs.length jo, .slice xh (bSys s bd).hints.length jh, .slice xc (bSys s bd).cons.length jc] 32)) t2, alloc_keep (o := (.cells #[.int .i64 (bSys s bd).ins, .slice xo (bSys s bd).outs.length jo, .slice xh (bSys s bd).hints.length jh, .slice xc (bSys s bd).cons.length jc] 32)) t3]) rfl (ExtR.of (by rw [Ho.out, HM.out, hb]; rfl) (by rw [Hr.out, HM.out]; rfl) (by rw [Hv.out, HM.out, hb]; rfl) (balloc (by have := bY.size; omega) bY _) (S7.agree (SameF.of_below (Below.alloc (Below.refl _ _) (Nat.le_refl _) _) (fun k q => S7.lim k q)) (by simp)) (N7.agree (SameF.of_below (Below.alloc (Below.refl _ _) (Nat.le_refl _) _) (fun k q => by have := q.2.1; omega)) (by simp)) (fun k q => by rcases hF _ q with q | q; have := QG.out _ q; omega; omega) (fun k q => ⟨by have := q.1; omega, by have := q.2.1; simp; omega, fun hq => by rcases hF _ hq with r | r; exact q.2.2 r; have := q.2.1; omega⟩))
end Go.Proofs.Ytcenijdaacbgpaa.L

/- AddBits: the program. -/
namespace Go.Proofs.Ytcenijdaacbgpaa.L
open Go.RowKit Go.Proofs.Ytcenijdaacbgpaa.S
set_option linter.unusedVariables false
set_option linter.unusedSimpArgs false

theorem enter_AddBits1 : ∀ args w, (callFunc 23 args).run Try.prog w = .ok (.enter 23 args) w := fun args w => Go.MuLone.run_callFunc_enter (fn := Try.f23) (by kernel_rfl) (by kernel_rfl) rfl args w
set_option maxRecDepth 100000 in
set_option maxHeartbeats 1600000 in
theorem addBits1_any (base g : Nat) (gv : Gv) (s : SysC) (b : Bd) (Q : Nat → Prop) (ox : Bool) (px pn : Nat) (vx : Value) (x : List T) (n : Nat) (w : World) (B : Bld base g gv s b Q w) (cx : w.cell? ⟨px, 0, none⟩ = some vx) (cn : w.cell? ⟨pn, 0, none⟩ = some (.int .i64 n)) (tx : OutL ox Q w vx x)
    (nx : x.length ≤ 1048576) (hn : n ≤ 30) (i0 : 0 ≤ s.ins) (i1 : s.ins ≤ 100) (nh : s.hints.length ≤ 1048576) (nc : s.cons.length ≤ 1048576) (nb : b.n + 100 ≤ 1000000) :
    Calls Try.prog 23 #[.pointer (some ⟨g, 0, none⟩), .pointer (some ⟨px, 0, none⟩), .pointer (some ⟨pn, 0, none⟩)] w (RetR base g gv s (bitsB s b x n) (bitsBK s b x n).2 Q w) := by
  obtain ⟨ax, kx, rfl, lx, mbx⟩ := tx.shape
  have lpx : px < w.heap.size := World.block_lt_of_cell? _ _ cx
  have lpn : pn < w.heap.size := World.block_lt_of_cell? _ _ cn
  go_enter Try.func23, Try.ntmps23
  go_wp2_with fail
  refine name_call fun w1 hw1 => ?_
  have e1 : Below w.heap.size w w1 := by rw [hw1]; (repeat (with_reducible first | exact bR _ _ | assumption | refine bD ?_ | refine bN ?_ _ | refine bA ?_ _ | refine bS ?_ _))
  clear hw1
  have z1 := e1.size
  have X1 : Ext Q Q w w1 := .of_below e1
  refine (bitsB_any base g gv s b Q ox _ x n w1 (B.below e1) (tx.ext X1) nx hn i0 i1 nh nc nb).mono ?_; rintro e w2 ⟨u, Q2, rfl, B2, N2, X2⟩
  obtain ⟨p, kp, rfl, lp, bp⟩ := N2.shape
  have XF := X1.trans X2
  have NF : NewR w.heap.size Q2 w2 (.slice p (bitsBK s b x n).2.length kp) (bitsBK s b x n).2 := N2.low (b2 := w.heap.size) z1 (fun R F gq => gq.low2 z1)
  clear tx X1 X2 B N2
  go_wp2_with fail
  go_ret
  exact RetR.of rfl rfl B2 NF XF

set_option maxRecDepth 100000 in
set_option maxHeartbeats 3200000 in
theorem addBits_impl (o l h vi vo vh vc) (s : SysC) (ox lx hx vx) (x : List T) (q : Int) (w : World) (ts : SysR o l h w vi vo vh vc s) (hh : h ≤ w.heap.size) (sm : Small s) (tx : Terms ox lx hx w vx x) (hhx : hx ≤ w.heap.size) (nx : x.length ≤ 1048576)
    (n : Nat) (hn : 1 ≤ q ∧ q ≤ 30 → q = (n : Int) ∧ n ≤ 30) (m : Bool) (hm : m = (decide (1 ≤ q ∧ q ≤ 30) && mayL s [x]))
    (ok : Bool) (r : SysC) (v : List (List T)) (Ho : Hid (ok = (m && bOk (bitsB s ⟨[], [], 0⟩ x n)))) (Hr : Hid (r = if m = true then bSys s (bitsB s ⟨[], [], 0⟩ x n) else sys0)) (Hv : Hid (v = if (m && bOk (bitsB s ⟨[], [], 0⟩ x n)) = true then (bitsBK s ⟨[], [], 0⟩ x n).2 else [])) :
    Calls Try.prog 10 #[.agg #[vi, vo, vh, vc], .agg #[vx], .int .i64 q] w (ExtR ok r v w) := by
  obtain ⟨ao, ko, ah, kh, ac, kc, rfl, rfl, rfl, rfl, lo, bo, lh, bh, lc, bc, fi⟩ := id ts.shape
  obtain ⟨ax, kx, rfl, qx, mbx⟩ := tx.shape
  by_cases h1 : q < 1
  · have E0 : m = false := by rw [hm, decide_eq_false (by omega)]; rfl
    rw [E0] at Ho Hr Hv
    have E1 : Hid (ok = false) := Lib.hid Ho.out
    have E2 : Hid (r = sys0) := Lib.hid Hr.out
    have E3 : Hid (v = []) := Lib.hid Hv.out
    clear Ho Hr Hv hm E0 hn
    go_enter Try.func10, Try.ntmps10
    go_wp2_with fail
    exact bodyPost_ret (v := .tuple #[.agg #[.int .i64 0, .slice none 0 0, .slice none 0 0, .slice none 0 0], .slice none 0 0, .bool false]) (by simp [results, Try.results10, go_sem]) rfl (ExtR.of E1.out E2.out E3.out (by (repeat (with_reducible first | exact bR _ _ | assumption | refine bD ?_ | refine bN ?_ _ | refine bA ?_ _ | refine bS ?_ _))) (SysF.zero _) (RowF.nil FShape.lin (fun _ => False) _) (fun _ q => q.elim) (fun _ q => q.elim))
  by_cases h2 : q > 30
  · have E0 : m = false := by rw [hm, decide_eq_false (by omega)]; rfl
    rw [E0] at Ho Hr Hv
    have E1 : Hid (ok = false) := Lib.hid Ho.out
    have E2 : Hid (r = sys0) := Lib.hid Hr.out
    have E3 : Hid (v = []) := Lib.hid Hv.out
    clear Ho Hr Hv hm E0 hn
    go_enter Try.func10, Try.ntmps10
    go_wp2_with fail
    exact bodyPost_ret (v := .tuple #[.agg #[.int .i64 0, .slice none 0 0, .slice none 0 0, .slice none 0 0], .slice none 0 0, .bool false]) (by simp [results, Try.results10, go_sem]) rfl (ExtR.of E1.out E2.out E3.out (by (repeat (with_reducible first | exact bR _ _ | assumption | refine bD ?_ | refine bN ?_ _ | refine bA ?_ _ | refine bS ?_ _))) (SysF.zero _) (RowF.nil FShape.lin (fun _ => False) _) (fun _ q => q.elim) (fun _ q => q.elim))
  obtain ⟨rfl, hn30⟩ := hn ⟨by omega, by omega⟩
  have E0 : m = mayL s [x] := by rw [hm, decide_eq_true (by omega)]; rfl
  rw [E0] at Ho Hr Hv
  have hEnter := enter_AddBits1
  clear hm E0 hn
  go_enter Try.func10, Try.ntmps10
  go_wp2_with fail
  refine name_call fun w1 hw1 => ?_
  have e1 : Below w.heap.size w w1 := by rw [hw1]; (repeat (with_reducible first | exact bR _ _ | assumption | refine bD ?_ | refine bN ?_ _ | refine bA ?_ _ | refine bS ?_ _))
  have z1 : w.heap.size + 5 ≤ w1.heap.size := by rw [hw1]; simp
  have cx : w1.cell? ⟨w.heap.size + 1, 0, none⟩ = some (.slice ax x.length kx) := by rw [hw1]; first | (simp; done) | go_simp
  have cn : w1.cell? ⟨w.heap.size + 1 + 1, 0, none⟩ = some (.int .i64 n) := by rw [hw1]; first | (simp; done) | go_simp
  have BR : Box4 w1 (w.heap.size + 1 + 1 + 1) (.int .i64 0) (.slice none 0 0) (.slice none 0 0) (.slice none 0 0) := ⟨by rw [hw1]; first | (simp; done) | go_simp, by rw [hw1]; first | (simp; done) | go_simp, by rw [hw1]; first | (simp; done) | go_simp, by rw [hw1]; first | (simp; done) | go_simp⟩
  have FR : Free4 w1 (w.heap.size + 1 + 1 + 1) := ⟨by rw [hw1]; first | (simp; done) | go_simp, by rw [hw1]; first | (simp; done) | go_simp, by rw [hw1]; first | (simp; done) | go_simp, by rw [hw1]; first | (simp; done) | go_simp⟩
  have ex : w1.cell? ⟨w.heap.size + 1 + 1 + 1 + 1, 0, none⟩ = some (.slice ax x.length kx) := by rw [hw1]; first | (simp; done) | go_simp
  clear hw1
  have ux := tx.keep e1 hhx
  have A : ArgsL w1 (w.heap.size + 1 + 1 + 1 + 1) [x] := ⟨by omega, fun j hj => by
    match j, hj with
    | 0, _ => exact ⟨_, ex, (OutL.arg (Q := fun _ => False) ux (Nat.le_trans hhx e1.size) (Nat.le_refl _) (fun _ q => q.elim)).read⟩⟩
  have C : mayL s [x] = true → ∀ gv g Q w', Below w1.heap.size w1 w' → Bld w1.heap.size g gv s ⟨[], [], 0⟩ Q w' → Calls Try.prog 23 (#[.pointer (some ⟨g, 0, none⟩)] ++ #[.pointer (some ⟨w.heap.size + 1, 0, none⟩), .pointer (some ⟨w.heap.size + 1 + 1, 0, none⟩)]) w' (RetR w1.heap.size g gv s (bitsB s ⟨[], [], 0⟩ x n) (bitsBK s ⟨[], [], 0⟩ x n).2 Q w') := fun hm gv g Q w' b B => by
    have lim := limB_facts (sysOk_limB (mayL_ok hm))
    exact addBits1_any w1.heap.size g gv s ⟨[], [], 0⟩ Q ox _ _ _ x n w' B (cell_keep b cx) (cell_keep b cn) (OutL.arg (ux.keep b (Nat.le_trans hhx e1.size)) (Nat.le_trans hhx e1.size) b.size B.low) nx hn30 lim.1 lim.2.1 sm.2.1 sm.2.2.1 (by simp)
  have nbd : (bitsB s ⟨[], [], 0⟩ x n).n ≤ 1000000 := by
    have := bitsBK_n s ⟨[], [], 0⟩ x n
    show (bitsBK s ⟨[], [], 0⟩ x n).1.n + 1 ≤ 1000000
    rw [this]; simp; omega
  refine (extR_any 23 _ o l h _ _ _ _ s _ 1 [x] (bitsB s ⟨[], [], 0⟩ x n) (bitsBK s ⟨[], [], 0⟩ x n).2 w1 (ts.keep e1 hh) (Nat.le_trans hh e1.size) sm A (by simp) (by simp) (by omega) nbd enter_AddBits1 C ok r v Ho Hr Hv).mono ?_; rintro e w2 ⟨ui, uo, uh, uc, u, F, G, rfl, f2, S2, T2, hF, hG⟩
  obtain ⟨xo, jo, xh, jh, xc, jc, rfl, rfl, rfl, rfl, -⟩ := id S2.shape
  obtain ⟨p, kp, rfl, lp, bp⟩ := T2.shape
  have z2 := f2.size
  have BR2 := BR.keep f2 (by omega)
  obtain ⟨y0, y1, y2, y3⟩ := FR.keep f2 (by omega)
  obtain ⟨r0, r1, r2, r3⟩ := id BR2
  have lA : w.heap.size + 1 + 1 + 1 < w2.heap.size := by omega
  have e2 : Below w.heap.size w w2 := e1.trans (f2.mono (by omega))
  have hF1 : ¬ F (w.heap.size + 1 + 1 + 1) := fun q => by have := hF _ q; omega
  have hG1 : ¬ G (w.heap.size + 1 + 1 + 1) := fun q => by have := (hG _ q).1; omega
  obtain ⟨q0, q1, q2, q3⟩ := BR2.copied (.int .i64 r.ins) (.slice xo r.outs.length jo) (.slice xh r.hints.length jh) (.slice xc r.cons.length jc)
  have S7 := S2.agree (sameF_sets w2 (.int .i64 r.ins) (.slice xo r.outs.length jo) (.slice xh r.hints.length jh) (.slice xc r.cons.length jc) hF1) (by simp)
  have T7 := T2.agree (sameF_sets w2 (.int .i64 r.ins) (.slice xo r.outs.length jo) (.slice xh r.hints.length jh) (.slice xc r.cons.length jc) hG1) (by simp)
  clear BR FR A C ts S2 T2
  go_wp2_with fail
  exact bodyPost_ret (v := .tuple #[.agg #[.int .i64 r.ins, .slice xo r.outs.length jo, .slice xh r.hints.length jh, .slice xc r.cons.length jc], .slice p v.length kp, .bool ok]) (by simp [results, Try.results10, go_sem, q0, q1, q2, q3]) rfl (ExtR.of rfl rfl rfl (by (repeat (with_reducible first | exact bR _ _ | assumption | refine bD ?_ | refine bN ?_ _ | refine bA ?_ _ | refine bS ?_ _))) S7 T7 (fun k q => by have := hF k q; omega) (fun k q => by have := hG k q; simp; exact ⟨by omega, by omega, this.2.2⟩))
end Go.Proofs.Ytcenijdaacbgpaa.L
