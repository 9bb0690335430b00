/- B14: May Done Mdl -/
import Derived.Test.YtcenijdaacbgpaaGreatB12
import Derived.Test.YtcenijdaacbgpaaGreatB5
import Derived.Test.YtcenijdaacbgpaaGreatB11
set_option linter.unusedVariables false
set_option linter.unusedSimpArgs false
/- The model's look at a system and at combinations (written by tools/gen/may.py). -/
namespace Go.Proofs.YtcenijdaacbgpaaGreat.L
open Go.RowKit Go.Proofs.YtcenijdaacbgpaaGreat.S
set_option linter.unusedVariables false
set_option linter.unusedSimpArgs false

set_option maxRecDepth 100000 in
set_option maxHeartbeats 3200000 in
theorem may_spec (o l h vi vo vh vc) (s : SysC) (ab cap : Nat) (ls : List (List T)) (w : World) (ts : SysR o l h w vi vo vh vc s) (hh : h ≤ w.heap.size) (sm : Small s) (A : ArgsL w ab ls) (na : ls.length ≤ 16) (b : Bool) (Hb : Hid (b = mayL s ls)) :
  Calls Tryz.prog 38 #[.agg #[vi, vo, vh, vc], .slice (some ⟨ab, 0, none⟩) ls.length cap] w fun e w' => e = .returned (.bool b) ∧ Below w.heap.size w w' := by
 obtain ⟨ao, ko, ah, kh, ac, kc, rfl, rfl, rfl, rfl, lo, bo, lh, bh, lc, bc, fi⟩ := id ts.shape
 have no := sm.1
 have nh := sm.2.1
 have nc := sm.2.2.1
 go_enter Tryz.func38, Tryz.ntmps38
 go_wp2_with fail
 refine name_call fun w1 hw1 => ?_
 have e1 : Below w.heap.size w w1 := by rw [hw1]; (repeat (with_reducible first | exact bR _ _ | assumption | refine bD ?_ | refine bN ?_ _ | refine bA ?_ _ | refine bS ?_ _))
 have z1 : w.heap.size + 1 ≤ w1.heap.size := by rw [hw1]; simp
 have B1 : Box4 w1 w.heap.size (.int .i64 s.ins) (.slice ao s.outs.length ko) (.slice ah s.hints.length kh) (.slice ac s.cons.length kc) := ⟨by rw [hw1]; first | (simp; done) | go_simp, by rw [hw1]; first | (simp; done) | go_simp, by rw [hw1]; first | (simp; done) | go_simp, by rw [hw1]; first | (simp; done) | go_simp⟩
 clear hw1
 cases hk : sysOk s
 ·have HM : Hid (b = false) := Lib.hid (Hb.out.trans (by unfold mayL; rw [hk]; rfl))
  refine (sysOk_specb o l h _ _ _ _ s _ (ts.keep e1 hh) (by omega) nh no nc false hk).mono ?_; rintro e w2 ⟨rfl, f2⟩
  have e2 := e1.trans (f2.mono (by omega))
  go_wp2_with fail
  go_ret
  exact ⟨ret_bool HM.out.symm, e2⟩
 have lim := limB_facts (sysOk_limB hk)
 have w0 : 0 ≤ 1 + s.ins + (s.hints.length : Int) := by omega
 refine (sysOk_specb o l h _ _ _ _ s _ (ts.keep e1 hh) (by omega) nh no nc true hk).mono ?_; rintro e w2 ⟨rfl, f2⟩
 have e2 := e1.trans (f2.mono (by omega))
 have z2 := f2.size
 have B2 := B1.keep f2 (by omega)
 clear B1 e1 f2 ts
 go_wp2_with fail
 go_loopw [5] (fun i wr => ∃ k : Nat, k ≤ ls.length ∧ i = .int .i64 k ∧ Below w.heap.size w wr ∧ w.heap.size < wr.heap.size ∧ Box4 wr w.heap.size (.int .i64 s.ins) (.slice ao s.outs.length ko) (.slice ah s.hints.length kh) (.slice ac s.cons.length kc) ∧ (∀ j (hj : j < ls.length), j < k → linW (1 + s.ins + (s.hints.length : Int)) ls[j] = true)) (fun i _ => ls.length - (intOf i).toNat)
 case atStart => exact ⟨0, Nat.zero_le _, rfl, e2, by omega, B2, fun j _ hj => by omega⟩
 case round =>
  clear B2 e2
  obtain ⟨k, hk', rfl, be, zz, BX, hq⟩ := hrel
  obtain ⟨c0, c1, c2, c3⟩ := id BX
  have HQ := Lib.hid hq
  clear hq
  by_cases hlt : k < ls.length
  ·obtain ⟨u, cu, ta⟩ := (A.keep be).2 k hlt
   obtain ⟨x, kx, rfl, lx, bx⟩ := ta.shape
   have dp : Below wr.heap.size wr wr.drew := (Below.refl _ _).drew
   have zd : wr.heap.size ≤ wr.drew.heap.size := Nat.le_refl _
   have ze : wr.drew.heap.size ≤ wr.heap.size := Nat.le_refl _
   have g0 := cell_keep dp cu
   have g1 := cell_keep dp c0
   have g2 := cell_keep dp c1
   have g3 := cell_keep dp c2
   have g4 := cell_keep dp c3
   have uA := ta.keep dp (Nat.le_refl _)
   cases hk1 : linOk ls[k]
   ·have HM : Hid (b = false) := Lib.hid (Hb.out.trans (allL_stop hlt (linW_no hk1)))
    have HK1 := Lib.hid hk1
    clear hk1
    go_wp2_with fail
    refine wp_region_held_drew (S := fun w' => w'.cell? ⟨ab, k, none⟩ = some (.slice x ls[k].length kx) ∧ w'.cell? ⟨w.heap.size, 0, none⟩ = some (.int .i64 s.ins) ∧ w'.cell? ⟨w.heap.size, 1, none⟩ = some (.slice ao s.outs.length ko) ∧ w'.cell? ⟨w.heap.size, 2, none⟩ = some (.slice ah s.hints.length kh) ∧ w'.cell? ⟨w.heap.size, 3, none⟩ = some (.slice ac s.cons.length kc)) (by kernel_rfl) ⟨g0, g1, g2, g3, g4⟩ (fun hHeld => ?_)
    refine wpAnyH_take (i := 0) rfl (by kernel_rfl) (by kernel_rfl) (by kernel_rfl) (fun _ _ _ h => h) (v := ?_) (Or.inl ⟨by rfl, ?_⟩) (by assumption) ?_
    case refine_2 => (intro w hSw; (try dsimp only at hSw); go_simp; (try with_reducible rfl))
    try simp only [Act.put, List.setIfInBounds_toArray, List.set_cons_zero, List.set_cons_succ, List.getElem_toArray, List.getElem_cons_succ, List.getElem_cons_zero]
    refine wpAnyH_take (i := 1) rfl (by kernel_rfl) (by kernel_rfl) (by kernel_rfl) (fun _ _ _ h => h) (v := ?_) (Or.inl ⟨by rfl, ?_⟩) (by assumption) ?_
    case refine_2 => (intro w hSw; (try dsimp only at hSw); go_simp; (try with_reducible rfl))
    try simp only [Act.put, List.setIfInBounds_toArray, List.set_cons_zero, List.set_cons_succ, List.getElem_toArray, List.getElem_cons_succ, List.getElem_cons_zero]
    refine wpAnyH_take (i := 2) rfl (by kernel_rfl) (by kernel_rfl) (by kernel_rfl) (fun _ _ _ h => h) (v := ?_) (Or.inl ⟨by rfl, ?_⟩) (by assumption) ?_
    case refine_2 => (intro w hSw; (try dsimp only at hSw); go_simp; (try with_reducible rfl))
    try simp only [Act.put, List.setIfInBounds_toArray, List.set_cons_zero, List.set_cons_succ, List.getElem_toArray, List.getElem_cons_succ, List.getElem_cons_zero]
    refine wpAnyH_take (i := 3) rfl (by kernel_rfl) (by kernel_rfl) (by kernel_rfl) (fun _ _ _ h => h) (v := ?_) (Or.inl ⟨by rfl, ?_⟩) (by assumption) ?_
    case refine_2 => (intro w hSw; (try dsimp only at hSw); go_simp; (try with_reducible rfl))
    try simp only [Act.put, List.setIfInBounds_toArray, List.set_cons_zero, List.set_cons_succ, List.getElem_toArray, List.getElem_cons_succ, List.getElem_cons_zero]
    refine wpAnyH_ready (rs := [4]) (by kernel_rfl) (by simp) ?_
    refine AllReadyH.cons rfl (fun K hK => ?_) AllReadyH.nil
    go_simp
    go_at_call 54; refine (lok_spec false 0 wr.heap.size _ ls[k] wr.drew uA (by omega) _ HK1.out).mono ?_; rintro e v1 ⟨rfl, j1⟩
    refine hK.out _ _ ⟨cell_keep j1 g0, cell_keep j1 g1, cell_keep j1 g2, cell_keep j1 g3, cell_keep j1 g4⟩ (fun hHeld => ?_)
    clear hK K
    try simp only [Act.put, List.setIfInBounds_toArray, List.set_cons_zero, List.set_cons_succ, List.getElem_toArray, List.getElem_cons_succ, List.getElem_cons_zero]
    refine wpAnyH_take (i := 5) rfl (by kernel_rfl) (by kernel_rfl) (by kernel_rfl) (fun _ _ _ h => h) (v := ?_) (Or.inl ⟨by rfl, ?_⟩) (by assumption) ?_
    case refine_2 => (intro w hSw; (try dsimp only at hSw); go_simp; (try with_reducible rfl))
    try simp only [Act.put, List.setIfInBounds_toArray, List.set_cons_zero, List.set_cons_succ, List.getElem_toArray, List.getElem_cons_succ, List.getElem_cons_zero]
    refine wpAnyH_take (i := 6) rfl (by kernel_rfl) (by kernel_rfl) (by kernel_rfl) (fun _ _ _ h => h) (v := ?_) (Or.inl ⟨by rfl, ?_⟩) (by assumption) ?_
    case refine_2 => (intro w hSw; (try dsimp only at hSw); go_simp; (try with_reducible rfl))
    try simp only [Act.put, List.setIfInBounds_toArray, List.set_cons_zero, List.set_cons_succ, List.getElem_toArray, List.getElem_cons_succ, List.getElem_cons_zero]
    refine wpAnyH_take (i := 7) rfl (by kernel_rfl) (by kernel_rfl) (by kernel_rfl) (fun _ _ _ h => h) (Or.inr ⟨by rfl, rfl⟩) (by assumption) ?_
    try simp only [Act.put, List.setIfInBounds_toArray, List.set_cons_zero, List.set_cons_succ, List.getElem_toArray, List.getElem_cons_succ, List.getElem_cons_zero]
    refine wpAnyH_take (i := 8) rfl (by kernel_rfl) (by kernel_rfl) (by kernel_rfl) (fun _ _ _ h => h) (Or.inr ⟨by rfl, rfl⟩) (by assumption) ?_
    try simp only [Act.put, List.setIfInBounds_toArray, List.set_cons_zero, List.set_cons_succ, List.getElem_toArray, List.getElem_cons_succ, List.getElem_cons_zero]
    refine wpAnyH_take (i := 9) rfl (by kernel_rfl) (by kernel_rfl) (by kernel_rfl) (fun _ _ _ h => h) (Or.inr ⟨by rfl, rfl⟩) (by assumption) ?_
    try simp only [Act.put, List.setIfInBounds_toArray, List.set_cons_zero, List.set_cons_succ, List.getElem_toArray, List.getElem_cons_succ, List.getElem_cons_zero]
    refine wpAnyH_take (i := 10) rfl (by kernel_rfl) (by kernel_rfl) (by kernel_rfl) (fun _ _ _ h => h) (Or.inr ⟨by rfl, rfl⟩) (by assumption) ?_
    try simp only [Act.put, List.setIfInBounds_toArray, List.set_cons_zero, List.set_cons_succ, List.getElem_toArray, List.getElem_cons_succ, List.getElem_cons_zero]
    refine wpAnyH_take (i := 11) rfl (by kernel_rfl) (by kernel_rfl) (by kernel_rfl) (fun _ _ _ h => h) (Or.inr ⟨by rfl, rfl⟩) (by assumption) ?_
    try simp only [Act.put, List.setIfInBounds_toArray, List.set_cons_zero, List.set_cons_succ, List.getElem_toArray, List.getElem_cons_succ, List.getElem_cons_zero]
    refine wpAnyH_take (i := 12) rfl (by kernel_rfl) (by kernel_rfl) (by kernel_rfl) (fun _ _ _ h => h) (Or.inr ⟨by rfl, rfl⟩) (by assumption) ?_
    try simp only [Act.put, List.setIfInBounds_toArray, List.set_cons_zero, List.set_cons_succ, List.getElem_toArray, List.getElem_cons_succ, List.getElem_cons_zero]
    refine wpAnyH_take (i := 13) rfl (by kernel_rfl) (by kernel_rfl) (by kernel_rfl) (fun _ _ _ h => h) (Or.inr ⟨by rfl, rfl⟩) (by assumption) ?_
    try simp only [Act.put, List.setIfInBounds_toArray, List.set_cons_zero, List.set_cons_succ, List.getElem_toArray, List.getElem_cons_succ, List.getElem_cons_zero]
    refine wpAnyH_take (i := 14) rfl (by kernel_rfl) (by kernel_rfl) (by kernel_rfl) (fun _ _ _ h => h) (Or.inr ⟨by rfl, rfl⟩) (by assumption) ?_
    try simp only [Act.put, List.setIfInBounds_toArray, List.set_cons_zero, List.set_cons_succ, List.getElem_toArray, List.getElem_cons_succ, List.getElem_cons_zero]
    refine wpAnyH_take (i := 15) rfl (by kernel_rfl) (by kernel_rfl) (by kernel_rfl) (fun _ _ _ h => h) (v := ?_) (Or.inl ⟨by rfl, ?_⟩) (by assumption) ?_
    case refine_2 => (intro w hSw; (try dsimp only at hSw); go_simp; (try with_reducible rfl))
    try simp only [Act.put, List.setIfInBounds_toArray, List.set_cons_zero, List.set_cons_succ, List.getElem_toArray, List.getElem_cons_succ, List.getElem_cons_zero]
    refine wpAnyH_done (by kernel_rfl) ?_ _
    have s1 := j1.size
    have bz : Below w.heap.size w v1 := ((be.trans (dp.mono (by omega))).trans (j1.mono (by omega)))
    go_wp2_with fail
    go_ret
    exact ⟨ret_bool HM.out.symm, bz⟩
   cases hh : linW (1 + s.ins + (s.hints.length : Int)) ls[k]
   ·have HM : Hid (b = false) := Lib.hid (Hb.out.trans (allL_stop hlt hh))
    have HK1 := Lib.hid hk1
    have HH : Hid (linW (1 + s.ins + s.hints.length) ls[k] = false) := Lib.hid hh
    clear hk1 hh
    go_wp2_with fail
    go_region_held3 (fun w' => w'.cell? ⟨ab, k, none⟩ = some (.slice x ls[k].length kx) ∧ w'.cell? ⟨w.heap.size, 0, none⟩ = some (.int .i64 s.ins) ∧ w'.cell? ⟨w.heap.size, 1, none⟩ = some (.slice ao s.outs.length ko) ∧ w'.cell? ⟨w.heap.size, 2, none⟩ = some (.slice ah s.hints.length kh) ∧ w'.cell? ⟨w.heap.size, 3, none⟩ = some (.slice ac s.cons.length kc)) (first | exact ⟨g0, g1, g2, g3, g4⟩ | exact ⟨cell_keep j1 g0, cell_keep j1 g1, cell_keep j1 g2, cell_keep j1 g3, cell_keep j1 g4⟩ | exact ⟨cell_keep j2 (cell_keep j1 g0), cell_keep j2 (cell_keep j1 g1), cell_keep j2 (cell_keep j1 g2), cell_keep j2 (cell_keep j1 g3), cell_keep j2 (cell_keep j1 g4)⟩ | exact ⟨cell_keep j3 (cell_keep j2 (cell_keep j1 g0)), cell_keep j3 (cell_keep j2 (cell_keep j1 g1)), cell_keep j3 (cell_keep j2 (cell_keep j1 g2)), cell_keep j3 (cell_keep j2 (cell_keep j1 g3)), cell_keep j3 (cell_keep j2 (cell_keep j1 g4))⟩)
     (first
      | (go_at_call 54; refine (lok_spec false 0 wr.heap.size _ ls[k] wr.drew uA (by omega) _ HK1.out).mono ?_; rintro e v1 ⟨rfl, j1⟩; have s1 := j1.size)
      | (go_at_call 56; refine (l3vars_any s _ _ _ _ _ _ v1 lim.1 lim.2.1 nh).mono ?_; rintro e v2 ⟨rfl, j2⟩; have s2 := j2.size)
      | (go_at_call 55; refine (l2w_any false 0 wr.heap.size _ ls[k] (1 + s.ins + s.hints.length) v2 ((uA.keep j1 (by omega)).keep j2 (by omega)) (by omega) w0 (by omega) HK1.out _ HH.out).mono ?_; rintro e v3 ⟨rfl, j3⟩))
    have s1 := j1.size
    have s2 := j2.size
    have s3 := j3.size
    have bq : Below wr.heap.size wr v3 := ((dp.trans (j1.mono (by omega))).trans (j2.mono (by omega))).trans (j3.mono (by omega))
    have bz : Below w.heap.size w v3 := be.trans (bq.mono (by omega))
    have BZ := BX.keep bq (by omega)
    clear g0 g1 g2 g3 g4 uA c0 c1 c2 c3
    go_wp2_with fail
    go_ret
    exact ⟨ret_bool HM.out.symm, bz⟩
   have HK1 := Lib.hid hk1
   have HH : Hid (linW (1 + s.ins + s.hints.length) ls[k] = true) := Lib.hid hh
   clear hk1 hh
   go_wp2_with fail
   go_region_held3 (fun w' => w'.cell? ⟨ab, k, none⟩ = some (.slice x ls[k].length kx) ∧ w'.cell? ⟨w.heap.size, 0, none⟩ = some (.int .i64 s.ins) ∧ w'.cell? ⟨w.heap.size, 1, none⟩ = some (.slice ao s.outs.length ko) ∧ w'.cell? ⟨w.heap.size, 2, none⟩ = some (.slice ah s.hints.length kh) ∧ w'.cell? ⟨w.heap.size, 3, none⟩ = some (.slice ac s.cons.length kc)) (first | exact ⟨g0, g1, g2, g3, g4⟩ | exact ⟨cell_keep j1 g0, cell_keep j1 g1, cell_keep j1 g2, cell_keep j1 g3, cell_keep j1 g4⟩ | exact ⟨cell_keep j2 (cell_keep j1 g0), cell_keep j2 (cell_keep j1 g1), cell_keep j2 (cell_keep j1 g2), cell_keep j2 (cell_keep j1 g3), cell_keep j2 (cell_keep j1 g4)⟩ | exact ⟨cell_keep j3 (cell_keep j2 (cell_keep j1 g0)), cell_keep j3 (cell_keep j2 (cell_keep j1 g1)), cell_keep j3 (cell_keep j2 (cell_keep j1 g2)), cell_keep j3 (cell_keep j2 (cell_keep j1 g3)), cell_keep j3 (cell_keep j2 (cell_keep j1 g4))⟩)
    (first
     | (go_at_call 54; refine (lok_spec false 0 wr.heap.size _ ls[k] wr.drew uA (by omega) _ HK1.out).mono ?_; rintro e v1 ⟨rfl, j1⟩; have s1 := j1.size)
     | (go_at_call 56; refine (l3vars_any s _ _ _ _ _ _ v1 lim.1 lim.2.1 nh).mono ?_; rintro e v2 ⟨rfl, j2⟩; have s2 := j2.size)
     | (go_at_call 55; refine (l2w_any false 0 wr.heap.size _ ls[k] (1 + s.ins + s.hints.length) v2 ((uA.keep j1 (by omega)).keep j2 (by omega)) (by omega) w0 (by omega) HK1.out _ HH.out).mono ?_; rintro e v3 ⟨rfl, j3⟩))
   have s1 := j1.size
   have s2 := j2.size
   have s3 := j3.size
   have bq : Below wr.heap.size wr v3 := ((dp.trans (j1.mono (by omega))).trans (j2.mono (by omega))).trans (j3.mono (by omega))
   have bz : Below w.heap.size w v3 := be.trans (bq.mono (by omega))
   have BZ := BX.keep bq (by omega)
   clear g0 g1 g2 g3 g4 uA c0 c1 c2 c3
   go_wp2_with fail
   go_roundw
   case rel => exact ⟨k + 1, hlt, by go_num, bz, by omega, BZ, fun j hj hjk => by
    by_cases e : j = k
    ·subst e; exact HH.out
    ·exact HQ.out j hj (by omega)⟩
   case measure => simp [intOf]; omega
  obtain rfl : k = ls.length := by omega
  have HM : Hid (b = true) := Lib.hid (Hb.out.trans (allL_done hk fun j hj => HQ.out j hj hj))
  clear HQ A
  go_wp2_with fail
  go_ret
  exact ⟨ret_bool HM.out.symm, be⟩
end Go.Proofs.YtcenijdaacbgpaaGreat.L

/- The model's last step (written by tools/gen/done.py). -/
namespace Go.Proofs.YtcenijdaacbgpaaGreat.L
open Go.RowKit Go.Proofs.YtcenijdaacbgpaaGreat.S
set_option linter.unusedVariables false
set_option linter.unusedSimpArgs false

set_option maxRecDepth 100000 in
set_option maxHeartbeats 6400000 in
theorem done_spec (o l h vi vo vh vc) (s : SysC) (o2 l2 h2 wi wo wh wc) (t : SysC) (o3 l3 h3 va) (x : List T) (w : World) (ts : SysR o l h w vi vo vh vc s) (hh : h ≤ w.heap.size) (sm : Small s) (tt : SysR o2 l2 h2 w wi wo wh wc t) (hh2 : h2 ≤ w.heap.size) (sm2 : Small t) (ta : Terms o3 l3 h3 w va x) (hh3 : h3 ≤ w.heap.size) (nx : x.length ≤ 16777216)
  (ok : Bool) (r : SysC) (v : List T) (Ho : Hid (ok = sysOk t)) (Hr : Hid (r = if sysOk t = true then t else s)) (Hv : Hid (v = if sysOk t = true then x else [])) :
  Calls Tryz.prog 41 #[.agg #[vi, vo, vh, vc], .agg #[wi, wo, wh, wc], .agg #[va]] w (ExtL ok r v w) := by
 obtain ⟨ao, ko, ah, kh, ac, kc, rfl, rfl, rfl, rfl, lo, bo', lh, bh', lc, bc', fi⟩ := id ts.shape
 obtain ⟨bo, jo, bh, jh, bc, jc, rfl, rfl, rfl, rfl, lo2, bo2, lh2, bh2, lc2, bc2, fi2⟩ := id tt.shape
 obtain ⟨a, ka, rfl, la, ba⟩ := ta.shape
 go_enter Tryz.func41, Tryz.ntmps41
 go_wp2_with fail
 refine name_call fun w1 hw1 => ?_
 have e1 : Below w.heap.size w w1 := by rw [hw1]; (repeat (with_reducible first | exact bR _ _ | assumption | refine bD ?_ | refine bN ?_ _ | refine bA ?_ _ | refine bS ?_ _))
 have z1 : w.heap.size + 5 ≤ w1.heap.size := by rw [hw1]; simp
 have BS : Box4 w1 w.heap.size (.int .i64 s.ins) (.slice ao s.outs.length ko) (.slice ah s.hints.length kh) (.slice ac s.cons.length kc) := ⟨by rw [hw1]; first | (simp; done) | go_simp, by rw [hw1]; first | (simp; done) | go_simp, by rw [hw1]; first | (simp; done) | go_simp, by rw [hw1]; first | (simp; done) | go_simp⟩
 have BT : Box4 w1 (w.heap.size + 1) (.int .i64 t.ins) (.slice bo t.outs.length jo) (.slice bh t.hints.length jh) (.slice bc t.cons.length jc) := ⟨by rw [hw1]; first | (simp; done) | go_simp, by rw [hw1]; first | (simp; done) | go_simp, by rw [hw1]; first | (simp; done) | go_simp, by rw [hw1]; first | (simp; done) | go_simp⟩
 have cA : w1.cell? ⟨w.heap.size + 1 + 1, 0, none⟩ = some (.slice a x.length ka) := by rw [hw1]; first | (simp; done) | go_simp
 have BR : Box4 w1 (w.heap.size + 1 + 1 + 1) (.int .i64 0) (.slice none 0 0) (.slice none 0 0) (.slice none 0 0) := ⟨by rw [hw1]; first | (simp; done) | go_simp, by rw [hw1]; first | (simp; done) | go_simp, by rw [hw1]; first | (simp; done) | go_simp, by rw [hw1]; first | (simp; done) | go_simp⟩
 have FR : Free4 w1 (w.heap.size + 1 + 1 + 1) := ⟨by rw [hw1]; first | (simp; done) | go_simp, by rw [hw1]; first | (simp; done) | go_simp, by rw [hw1]; first | (simp; done) | go_simp, by rw [hw1]; first | (simp; done) | go_simp⟩
 have cL : w1.cell? ⟨w.heap.size + 1 + 1 + 1 + 1, 0, none⟩ = some (.slice none 0 0) := by rw [hw1]; first | (simp; done) | go_simp
 have fL : w1.frozen? ⟨w.heap.size + 1 + 1 + 1 + 1, 0, none⟩ = false := by rw [hw1]; first | (simp; done) | go_simp
 clear hw1
 have us := ts.keep e1 hh
 have ut := tt.keep e1 hh2
 have ua := ta.keep e1 hh3
 clear ts tt ta
 have HX : Hid (sysOk t = sysOk t) := Lib.hid rfl
 cases hk : sysOk t
 ·have E1 : Hid (ok = false) := Lib.hid (by rw [Ho.out, hk])
  have E2 : Hid (r = s) := Lib.hid (by rw [Hr.out, hk]; rfl)
  have E3 : Hid (v = []) := Lib.hid (by rw [Hv.out, hk]; rfl)
  refine (sysOk_specb o2 l2 h2 _ _ _ _ t _ ut (by omega) sm2.2.1 sm2.1 sm2.2.2.1 false hk).mono ?_; rintro e w2 ⟨rfl, f2⟩
  have z2 := f2.size
  obtain ⟨s0, s1, s2, s3⟩ := BS.keep f2 (by omega)
  have lS : w.heap.size < w2.heap.size := by omega
  clear hk
  go_wp2_with fail
  refine (l3own_any o l h _ _ _ _ s w2 (us.keep f2 (by omega)) (by omega) sm).mono ?_; rintro e w3 ⟨ui, uo, uh, uc, rfl, f3, own⟩
  have S3 := own.sysF (Nat.le_refl _)
  obtain ⟨xo, qo, xh, qh, xc, qc, rfl, rfl, rfl, rfl, -⟩ := id S3.shape
  have z3 := f3.size
  have f13 : Below w1.heap.size w1 w3 := f2.trans (f3.mono (by omega))
  have BR3 := BR.keep f13 (by omega)
  obtain ⟨y0, y1, y2, y3⟩ := FR.keep f13 (by omega)
  obtain ⟨r0, r1, r2, r3⟩ := id BR3
  have cL3 := cell_keep f13 cL
  have fL3 := (f13.frozen (p := ⟨w.heap.size + 1 + 1 + 1 + 1, 0, none⟩) (show w.heap.size + 1 + 1 + 1 + 1 < w1.heap.size by omega)).trans fL
  have lA : w.heap.size + 1 + 1 + 1 < w3.heap.size := by omega
  have lB : w.heap.size + 1 + 1 + 1 + 1 < w3.heap.size := by omega
  have e3 : Below w.heap.size w w3 := e1.trans (f13.mono (by omega))
  clear BS BT cA BR FR cL fL us ut ua s0 s1 s2 s3 own
  go_wp2_with fail
  obtain ⟨t0, t1, t2, t3⟩ := BR3.copied5 (b' := w.heap.size + 1 + 1 + 1 + 1) (by omega) (.int .i64 s.ins) (.slice xo s.outs.length qo) (.slice xh s.hints.length qh) (.slice xc s.cons.length qc) (.slice none 0 0)
  have t4 := cell_copied5 (b := w.heap.size + 1 + 1 + 1) cL3 (by omega) (.int .i64 s.ins) (.slice xo s.outs.length qo) (.slice xh s.hints.length qh) (.slice xc s.cons.length qc) (.slice none 0 0)
  exact bodyPost_ret (v := .tuple #[.agg #[.int .i64 s.ins, .slice xo s.outs.length qo, .slice xh s.hints.length qh, .slice xc s.cons.length qc], .agg #[.slice none 0 0], .bool false]) (by simp [results, Tryz.results41, go_sem, t0, t1, t2, t3, t4]) rfl (ExtL.of E1.out E2.out E3.out (by (repeat (with_reducible first | exact bR _ _ | assumption | refine bD ?_ | refine bN ?_ _ | refine bA ?_ _ | refine bS ?_ _))) (S3.agree (sameF_sets5 _ _ _ _ _ _ (fun q => by have := q.1; omega) (fun q => by have := q.1; omega)) (by simp)) (TermsF.nil _ (fun _ => False) _) (fun k q => by have := q.1; omega) (fun _ q => q.elim))
 have E1 : Hid (ok = true) := Lib.hid (by rw [Ho.out, hk])
 have E2 : Hid (r = t) := Lib.hid (by rw [Hr.out, hk]; rfl)
 have E3 : Hid (v = x) := Lib.hid (by rw [Hv.out, hk]; rfl)
 refine (sysOk_specb o2 l2 h2 _ _ _ _ t _ ut (by omega) sm2.2.1 sm2.1 sm2.2.2.1 true hk).mono ?_; rintro e w2 ⟨rfl, f2⟩
 have z2 := f2.size
 obtain ⟨s0, s1, s2, s3⟩ := BT.keep f2 (by omega)
 have cA2 := cell_keep f2 cA
 have BR2 := BR.keep f2 (by omega)
 have FR2 := FR.keep f2 (by omega)
 have cL2 := cell_keep f2 cL
 have fL2 := (f2.frozen (p := ⟨w.heap.size + 1 + 1 + 1 + 1, 0, none⟩) (show w.heap.size + 1 + 1 + 1 + 1 < w1.heap.size by omega)).trans fL
 have e2 : Below w.heap.size w w2 := e1.trans (f2.mono (by omega))
 have ut2 := ut.keep f2 (by omega)
 have ua2 := ua.keep f2 (by omega)
 have KK : Hid (∀ w', Below w2.heap.size w2 w' → w'.cell? ⟨w.heap.size + 1, 0, none⟩ = some (.int .i64 t.ins) ∧ w'.cell? ⟨w.heap.size + 1, 1, none⟩ = some (.slice bo t.outs.length jo) ∧ w'.cell? ⟨w.heap.size + 1, 2, none⟩ = some (.slice bh t.hints.length jh) ∧ w'.cell? ⟨w.heap.size + 1, 3, none⟩ = some (.slice bc t.cons.length jc) ∧ w'.cell? ⟨w.heap.size + 1 + 1, 0, none⟩ = some (.slice a x.length ka)) := Lib.hid fun w' k => ⟨cell_keep k s0, cell_keep k s1, cell_keep k s2, cell_keep k s3, cell_keep k cA2⟩
 have TO : Hid (∀ w', Below w2.heap.size w2 w' → SysR o2 l2 h2 w' (.int .i64 t.ins) (.slice bo t.outs.length jo) (.slice bh t.hints.length jh) (.slice bc t.cons.length jc) t) := Lib.hid fun w' k => ut2.keep k (by omega)
 have TA : Hid (∀ w', Below w2.heap.size w2 w' → Terms o3 l3 h3 w' (.slice a x.length ka) x) := Lib.hid fun w' k => ua2.keep k (by omega)
 have lS : w.heap.size + 5 ≤ w2.heap.size := by omega
 clear BS BT cA BR FR cL fL us ut ua s0 s1 s2 s3 hk e1 f2 ut2 ua2 cA2
 go_wp2_with fail
 go_region_held3 (fun w' => w'.cell? ⟨w.heap.size + 1, 0, none⟩ = some (.int .i64 t.ins) ∧ w'.cell? ⟨w.heap.size + 1, 1, none⟩ = some (.slice bo t.outs.length jo) ∧ w'.cell? ⟨w.heap.size + 1, 2, none⟩ = some (.slice bh t.hints.length jh) ∧ w'.cell? ⟨w.heap.size + 1, 3, none⟩ = some (.slice bc t.cons.length jc) ∧ w'.cell? ⟨w.heap.size + 1 + 1, 0, none⟩ = some (.slice a x.length ka)) (exact ⟨by (repeat (first | with_reducible exact KZ.out.1 | with_reducible refine cell_drew ?_ | ((with_reducible refine cell_other1 ?_ ?_); (focus omega)) | with_reducible exact (KK.out _ (by (repeat (with_reducible first | exact bR _ _ | assumption | refine bD ?_ | refine bN ?_ _ | refine bA ?_ _ | refine bS ?_ _)))).1)), by (repeat (first | with_reducible exact KZ.out.2.1 | with_reducible refine cell_drew ?_ | ((with_reducible refine cell_other1 ?_ ?_); (focus omega)) | with_reducible exact (KK.out _ (by (repeat (with_reducible first | exact bR _ _ | assumption | refine bD ?_ | refine bN ?_ _ | refine bA ?_ _ | refine bS ?_ _)))).2.1)), by (repeat (first | with_reducible exact KZ.out.2.2.1 | with_reducible refine cell_drew ?_ | ((with_reducible refine cell_other1 ?_ ?_); (focus omega)) | with_reducible exact (KK.out _ (by (repeat (with_reducible first | exact bR _ _ | assumption | refine bD ?_ | refine bN ?_ _ | refine bA ?_ _ | refine bS ?_ _)))).2.2.1)), by (repeat (first | with_reducible exact KZ.out.2.2.2.1 | with_reducible refine cell_drew ?_ | ((with_reducible refine cell_other1 ?_ ?_); (focus omega)) | with_reducible exact (KK.out _ (by (repeat (with_reducible first | exact bR _ _ | assumption | refine bD ?_ | refine bN ?_ _ | refine bA ?_ _ | refine bS ?_ _)))).2.2.2.1)), by (repeat (first | with_reducible exact KZ.out.2.2.2.2 | with_reducible refine cell_drew ?_ | ((with_reducible refine cell_other1 ?_ ?_); (focus omega)) | with_reducible exact (KK.out _ (by (repeat (with_reducible first | exact bR _ _ | assumption | refine bD ?_ | refine bN ?_ _ | refine bA ?_ _ | refine bS ?_ _)))).2.2.2.2))⟩)
  (first
   | (go_at_call 39; (with_reducible refine (l3own_any o2 l2 h2 _ _ _ _ t _ (TO.out _ (by (repeat (with_reducible first | exact bR _ _ | assumption | refine bD ?_ | refine bN ?_ _ | refine bA ?_ _ | refine bS ?_ _)))) (Nat.le_trans (by omega : h2 ≤ w2.heap.size) (Below.size (B := w2.heap.size) (by (repeat (with_reducible first | exact bR _ _ | assumption | refine bD ?_ | refine bN ?_ _ | refine bA ?_ _ | refine bS ?_ _))))) sm2).mono ?_); rintro e y1 ⟨ui, uo, uh, uc, rfl, j1, own⟩; have G1 : Below w2.heap.size w2 y1 := Below.trans (by (repeat (with_reducible first | exact bR _ _ | assumption | refine bD ?_ | refine bN ?_ _ | refine bA ?_ _ | refine bS ?_ _))) (j1.mono (Below.size (B := w2.heap.size) (by (repeat (with_reducible first | exact bR _ _ | assumption | refine bD ?_ | refine bN ?_ _ | refine bA ?_ _ | refine bS ?_ _))))); have S3 := own.sysF (Nat.le_refl _); obtain ⟨xo, qo, xh, qh, xc, qc, rfl, rfl, rfl, rfl, -⟩ := id S3.shape; have z3 := j1.size)
   | (go_at_call 57; (with_reducible refine (l2own_any o3 l3 h3 _ x _ (TA.out _ (by (repeat (with_reducible first | exact bR _ _ | assumption | refine bD ?_ | refine bN ?_ _ | refine bA ?_ _ | refine bS ?_ _)))) (Nat.le_trans (by omega : h3 ≤ w2.heap.size) (Below.size (B := w2.heap.size) (by (repeat (with_reducible first | exact bR _ _ | assumption | refine bD ?_ | refine bN ?_ _ | refine bA ?_ _ | refine bS ?_ _))))) nx).mono ?_); rintro e y2 ⟨u, rfl, j2, tu⟩; have G2 : Below w2.heap.size w2 y2 := Below.trans (by (repeat (with_reducible first | exact bR _ _ | assumption | refine bD ?_ | refine bN ?_ _ | refine bA ?_ _ | refine bS ?_ _))) (j2.mono (Below.size (B := w2.heap.size) (by (repeat (with_reducible first | exact bR _ _ | assumption | refine bD ?_ | refine bN ?_ _ | refine bA ?_ _ | refine bS ?_ _))))); obtain ⟨p, kp, rfl, lp, bp⟩ := tu.shape; have z4 := j2.size; have KZ : Hid (y2.cell? ⟨w.heap.size + 1, 0, none⟩ = some (.int .i64 t.ins) ∧ y2.cell? ⟨w.heap.size + 1, 1, none⟩ = some (.slice bo t.outs.length jo) ∧ y2.cell? ⟨w.heap.size + 1, 2, none⟩ = some (.slice bh t.hints.length jh) ∧ y2.cell? ⟨w.heap.size + 1, 3, none⟩ = some (.slice bc t.cons.length jc) ∧ y2.cell? ⟨w.heap.size + 1 + 1, 0, none⟩ = some (.slice a x.length ka)) := Lib.hid (KK.out _ G2); have BR3 := BR2.keep G2 (by omega); obtain ⟨f0, f1, f2, f3⟩ := FR2.keep G2 (by omega); obtain ⟨r0, r1, r2, r3⟩ := id BR3; have cL3 := cell_keep G2 cL2; have fL3 := (G2.frozen (p := ⟨w.heap.size + 1 + 1 + 1 + 1, 0, none⟩) (show w.heap.size + 1 + 1 + 1 + 1 < w2.heap.size by omega)).trans fL2; have zG := G2.size; have lA : w.heap.size + 1 + 1 + 1 < y2.heap.size := (by omega); have lB : w.heap.size + 1 + 1 + 1 + 1 < y2.heap.size := (by omega)))
 go_wp2_with fail
 have zd : w2.drew.heap.size = w2.heap.size := rfl
 have zd1 : y1.drew.heap.size = y1.heap.size := rfl
 have zG1 := G1.size
 have S4 := S3.agree (SameF.of_below j2 (fun k q => q.2)) j2.size
 have b2 : Below w.heap.size w y2 := e2.trans (G2.mono (by omega))
 obtain ⟨t0, t1, t2, t3⟩ := BR3.copied5 (b' := w.heap.size + 1 + 1 + 1 + 1) (by omega) (.int .i64 t.ins) (.slice xo t.outs.length qo) (.slice xh t.hints.length qh) (.slice xc t.cons.length qc) (.slice p x.length kp)
 have t4 := cell_copied5 (b := w.heap.size + 1 + 1 + 1) cL3 (by omega) (.int .i64 t.ins) (.slice xo t.outs.length qo) (.slice xh t.hints.length qh) (.slice xc t.cons.length qc) (.slice p x.length kp)
 exact bodyPost_ret (v := .tuple #[.agg #[.int .i64 t.ins, .slice xo t.outs.length qo, .slice xh t.hints.length qh, .slice xc t.cons.length qc], .agg #[.slice p x.length kp], .bool true]) (by simp [results, Tryz.results41, go_sem, t0, t1, t2, t3, t4]) rfl (ExtL.of E1.out E2.out E3.out (by (repeat (with_reducible first | exact bR _ _ | assumption | refine bD ?_ | refine bN ?_ _ | refine bA ?_ _ | refine bS ?_ _))) (S4.agree (sameF_sets5 _ _ _ _ _ _ (fun q => by have := q.1; omega) (fun q => by have := q.1; omega)) (by simp)) (TermsF.agree (F := fun k => y1.heap.size ≤ k ∧ k < y2.heap.size) (tu.toF (fun k a1 a2 => ⟨by omega, a2⟩)) (sameF_sets5 _ _ _ _ _ _ (fun q => by have := q.1; omega) (fun q => by have := q.1; omega))) (fun k q => by have := q.1; omega) (fun k q => ⟨by have := q.1; omega, by have := q.2; simp; omega, fun r => by have := r.2; have := q.1; omega⟩))
end Go.Proofs.YtcenijdaacbgpaaGreat.L

/- The model's system while it grows: the rows and the box lie in Q, the elements outside of it (written by tools/gen/mdl.py). -/
namespace Go.Proofs.YtcenijdaacbgpaaGreat.L
open Go.RowKit Go.Proofs.YtcenijdaacbgpaaGreat.S
set_option linter.unusedVariables false
set_option linter.unusedSimpArgs false

theorem hint_unown {F : Nat → Prop} {w : World} {cs : List Value} {x : HintC} (h : FShape.hint.rep true F w cs x) : FShape.hint.rep false F w cs x := by
 obtain ⟨va, vb, l1, h1, l2, h2, e, f0, f3, p1, p2, d, ta, tb⟩ := h
 exact ⟨va, vb, l1, h1, l2, h2, e, f0, f3, p1, p2, fun q => (by cases q), ta.unown, tb.unown⟩
theorem con_unown {F : Nat → Prop} {w : World} {cs : List Value} {x : ConC} (h : FShape.con.rep true F w cs x) : FShape.con.rep false F w cs x := by
 obtain ⟨va, vb, vc, l1, h1, l2, h2, l3, h3, e, p1, p2, p3, d, ta, tb, tc⟩ := h
 exact ⟨va, vb, vc, l1, h1, l2, h2, l3, h3, e, p1, p2, p3, fun q => (by cases q), ta.unown, tb.unown, tc.unown⟩
theorem GrowF.unown {α : Type} {E : FShape α} {e : TypeId} {base : Nat} {R F : Nat → Prop} {w : World} {v : Value} {xs : List α} (hE : ∀ {F w cs x}, E.rep true F w cs x → E.rep false F w cs x) (g : GrowF E e true base R F w v xs) : GrowF E e false base R F w v xs := by
 obtain ⟨css, G, h1, h2, h3, h4, h5, h6⟩ := g
 exact ⟨css, G, h1, h2, h3, h4, fun q => (by cases q), fun j x cs a b => ⟨(h6 j x cs a b).1, hE (h6 j x cs a b).2⟩⟩
def Mdl (base g : Nat) (t : SysC) (Q A : Nat → Prop) (w : World) : Prop :=
 Q g ∧ (∀ k, Q k → k < w.heap.size) ∧ Fits t.ins ∧ Free4 w g ∧ ∃ vo vh vc, Box4 w g (.int .i64 t.ins) vo vh vc ∧ ∃ R1 F1 R2 F2 FO : Nat → Prop, RowF FShape.lin FO w vo t.outs ∧ GrowF FShape.hint 81 false base R1 F1 w vh t.hints ∧ GrowF FShape.con 84 false base R2 F2 w vc t.cons ∧
  (∀ k, R1 k → Q k ∧ k ≠ g) ∧ (∀ k, R2 k → Q k ∧ k ≠ g ∧ ¬ R1 k) ∧ (∀ k, F1 k ∨ F2 k ∨ FO k → A k) ∧ (∀ k, A k → k < w.heap.size ∧ ¬ Q k)
section
variable {base g : Nat} {t : SysC} {Q A : Nat → Prop} {w w' : World}
theorem Mdl.lim (h : Mdl base g t Q A w) : ∀ k, Q k → k < w.heap.size := h.2.1
theorem Mdl.glt (h : Mdl base g t Q A w) : g < w.heap.size := h.2.1 g h.1
theorem Mdl.same (h : Mdl base g t Q A w) (al : ∀ k, Q k ∨ A k → w'.heap[k]? = w.heap[k]?) (hz : w.heap.size ≤ w'.heap.size) : Mdl base g t Q A w' := by
 obtain ⟨h1, h2, h3, h4, vo, vh, vc, h5, R1, F1, R2, F2, FO, rO, g1, g2, q1, q2, q3, q4⟩ := h
 refine ⟨h1, fun k q => Nat.lt_of_lt_of_le (h2 k q) hz, h3, h4.same (al g (.inl h1)), vo, vh, vc, h5.same (al g (.inl h1)), R1, F1, R2, F2, FO, rO.agree (fun k q => al k (.inr (q3 k (.inr (.inr q))))) hz, g1.agree (fun k q => ?_), g2.agree (fun k q => ?_), q1, q2, q3, fun k q => ⟨Nat.lt_of_lt_of_le (q4 k q).1 hz, (q4 k q).2⟩⟩
 ·rcases q with q | q
  ·exact al k (.inl (q1 k q).1)
  ·exact al k (.inr (q3 k (.inl q)))
 ·rcases q with q | q
  ·exact al k (.inl (q2 k q).1)
  ·exact al k (.inr (q3 k (.inr (.inl q))))
theorem Mdl.els (h : Mdl base g t Q A w) : ∀ k, A k → k < w.heap.size ∧ ¬ Q k := by
 obtain ⟨h1, h2, h3, h4, vo, vh, vc, h5, R1, F1, R2, F2, FO, rO, g1, g2, q1, q2, q3, q4⟩ := h
 exact q4
theorem Mdl.boxed {B : Nat} {u : Value} (h : Mdl base g t Q A w) (hq : ¬ Q B) (ha : ¬ A B) : Mdl base g t Q A (w.setCell ⟨B, 0, none⟩ u) :=
 h.same (fun k hk => Below.heap_setCell _ _ _ _ (fun e => by subst e; rcases hk with r | r; exact hq r; exact ha r)) (by simp [World.setCell])
theorem Mdl.below (h : Mdl base g t Q A w) (f : Below w.heap.size w w') : Mdl base g t Q A w' := h.same (fun k hk => f.block k (by rcases hk with r | r; exact h.lim k r; exact (h.els k r).1)) f.size
/-- One more hint has been appended. -/
theorem Mdl.hinted {W w1 w2 : World} {v' vo vh vc : Value} {x : HintC} {R1 F1 R2 F2 FO G' : Nat → Prop} (hg : Q g) (hQ : ∀ k, Q k → k < W.heap.size) (fi : Fits t.ins) (fr : Free4 W g) (bx : Box4 W g (.int .i64 t.ins) vo vh vc) (rO : RowF FShape.lin FO W vo t.outs)
  (go : GrowF FShape.con 84 false base R2 F2 W vc t.cons) (q1 : ∀ k, R1 k → Q k ∧ k ≠ g) (q2 : ∀ k, R2 k → Q k ∧ k ≠ g ∧ ¬ R1 k) (q3' : ∀ k, F1 k ∨ F2 k ∨ FO k → A k) (q4 : ∀ k, A k → k < W.heap.size ∧ ¬ Q k) (f1 : Below W.heap.size W w1) (on : OnlyF R1 w1 w2)
  (gm : GrowF FShape.hint 81 false base (fun k => R1 k ∨ Nw w1 w2 k) (fun k => F1 k ∨ G' k) w2 v' (t.hints ++ [x])) (hG : ∀ k, G' k → k < W.heap.size ∧ ¬ Q k) :
  Mdl base g (sHint t x) (fun k => Q k ∨ Nw w1 w2 k) (fun k => A k ∨ G' k) (w2.setCell ⟨g, 2, none⟩ v') ∧ Ext Q (fun k => Q k ∨ Nw w1 w2 k) W (w2.setCell ⟨g, 2, none⟩ v') := by
 have z1 := f1.size
 have z2 := on.size
 have lg := hQ g hg
 have q3 : ∀ k, F1 k ∨ F2 k ∨ FO k → k < W.heap.size ∧ ¬ Q k := fun k q => q4 k (q3' k q)
 have rm : ∀ k, R1 k → Q k ∧ k ≠ g := fun k r => ⟨(q1 k r).1, (q1 k r).2⟩
 have s2 : ∀ k, k < W.heap.size → ¬ R1 k → w2.heap[k]? = W.heap[k]? := fun k hk nr => by rw [on.block k (by omega) nr]; exact f1.block k hk
 have sg := s2 g lg (fun r => (rm g r).2 rfl)
 have s3 : ∀ k, k < W.heap.size → ¬ R1 k → k ≠ g → (w2.setCell ⟨g, 2, none⟩ v').heap[k]? = W.heap[k]? := fun k hk nr ne => by rw [Below.heap_setCell _ _ _ _ ne]; exact s2 k hk nr
 refine ⟨⟨.inl hg, fun k q => ?_, fi, (fr.same sg).set _ _, vo, v', vc, (bx.same sg).set2 _, _, _, _, _, FO, rO.agree (fun k q => ?_) (by rw [World.size_setCell]; omega), gm.agree (fun k q => ?_), go.agree (fun k q => ?_), ?_, ?_, ?_, ?_⟩, ?_, fun k q => by rcases q with q | q; exact .inl q; exact .inr (by have := q.1; omega)⟩
 ·rw [World.size_setCell]
  rcases q with q | q
  ·have := hQ k q; omega
  ·exact q.2
 ·have hk := q3 k (.inr (.inr q)); exact s3 k hk.1 (fun r => hk.2 (rm k r).1) (fun e => hk.2 (e ▸ hg))
 ·refine Below.heap_setCell _ _ _ _ (fun e => ?_)
  subst e
  rcases q with (q | q) | (q | q)
  ·exact (rm _ q).2 rfl
  ·have := q.1; omega
  ·exact (q3 _ (.inl q)).2 hg
  ·exact (hG _ q).2 hg
 ·rcases q with q | q
  ·exact s3 k (hQ k (q2 k q).1) (fun r => (q2 k q).2.2 r) (q2 k q).2.1
  ·have hk := q3 k (.inr (.inl q)); exact s3 k hk.1 (fun r => hk.2 (rm k r).1) (fun e => hk.2 (e ▸ hg))
 ·intro k q
  rcases q with q | q
  ·exact ⟨.inl (q1 k q).1, (q1 k q).2⟩
  ·exact ⟨.inr q, by have := q.1; omega⟩
 ·intro k q
  refine ⟨.inl (q2 k q).1, (q2 k q).2.1, fun r => ?_⟩
  rcases r with r | r
  ·exact (q2 k q).2.2 r
  ·have := hQ k (q2 k q).1; have := r.1; omega
 ·intro k q
  rcases q with (q | q) | q | q
  ·exact .inl (q3' k (.inl q))
  ·exact .inr q
  ·exact .inl (q3' k (.inr (.inl q)))
  ·exact .inl (q3' k (.inr (.inr q)))
 ·intro k q
  have hk : k < W.heap.size ∧ ¬ Q k := by
   rcases q with q | q
   ·exact q4 k q
   ·exact hG k q
  exact ⟨by rw [World.size_setCell]; omega, fun r => by
   rcases r with r | r
   ·exact hk.2 r
   ·have := r.1; omega⟩
 ·exact ((OnlyF.of_below f1).trans2 on (fun i hi => .inl (rm i hi).1)).setCell (p := ⟨g, 2, none⟩) hg _
/-- One more con has been appended. -/
theorem Mdl.coned {W w1 w2 : World} {v' vo vh vc : Value} {x : ConC} {R1 F1 R2 F2 FO G' : Nat → Prop} (hg : Q g) (hQ : ∀ k, Q k → k < W.heap.size) (fi : Fits t.ins) (fr : Free4 W g) (bx : Box4 W g (.int .i64 t.ins) vo vh vc) (rO : RowF FShape.lin FO W vo t.outs)
  (go : GrowF FShape.hint 81 false base R1 F1 W vh t.hints) (q1 : ∀ k, R1 k → Q k ∧ k ≠ g) (q2 : ∀ k, R2 k → Q k ∧ k ≠ g ∧ ¬ R1 k) (q3' : ∀ k, F1 k ∨ F2 k ∨ FO k → A k) (q4 : ∀ k, A k → k < W.heap.size ∧ ¬ Q k) (f1 : Below W.heap.size W w1) (on : OnlyF R2 w1 w2)
  (gm : GrowF FShape.con 84 false base (fun k => R2 k ∨ Nw w1 w2 k) (fun k => F2 k ∨ G' k) w2 v' (t.cons ++ [x])) (hG : ∀ k, G' k → k < W.heap.size ∧ ¬ Q k) :
  Mdl base g (sCon t x) (fun k => Q k ∨ Nw w1 w2 k) (fun k => A k ∨ G' k) (w2.setCell ⟨g, 3, none⟩ v') ∧ Ext Q (fun k => Q k ∨ Nw w1 w2 k) W (w2.setCell ⟨g, 3, none⟩ v') := by
 have z1 := f1.size
 have z2 := on.size
 have lg := hQ g hg
 have q3 : ∀ k, F1 k ∨ F2 k ∨ FO k → k < W.heap.size ∧ ¬ Q k := fun k q => q4 k (q3' k q)
 have rm : ∀ k, R2 k → Q k ∧ k ≠ g := fun k r => ⟨(q2 k r).1, (q2 k r).2.1⟩
 have s2 : ∀ k, k < W.heap.size → ¬ R2 k → w2.heap[k]? = W.heap[k]? := fun k hk nr => by rw [on.block k (by omega) nr]; exact f1.block k hk
 have sg := s2 g lg (fun r => (rm g r).2 rfl)
 have s3 : ∀ k, k < W.heap.size → ¬ R2 k → k ≠ g → (w2.setCell ⟨g, 3, none⟩ v').heap[k]? = W.heap[k]? := fun k hk nr ne => by rw [Below.heap_setCell _ _ _ _ ne]; exact s2 k hk nr
 refine ⟨⟨.inl hg, fun k q => ?_, fi, (fr.same sg).set _ _, vo, vh, v', (bx.same sg).set3 _, _, _, _, _, FO, rO.agree (fun k q => ?_) (by rw [World.size_setCell]; omega), go.agree (fun k q => ?_), gm.agree (fun k q => ?_), ?_, ?_, ?_, ?_⟩, ?_, fun k q => by rcases q with q | q; exact .inl q; exact .inr (by have := q.1; omega)⟩
 ·rw [World.size_setCell]
  rcases q with q | q
  ·have := hQ k q; omega
  ·exact q.2
 ·have hk := q3 k (.inr (.inr q)); exact s3 k hk.1 (fun r => hk.2 (rm k r).1) (fun e => hk.2 (e ▸ hg))
 ·rcases q with q | q
  ·exact s3 k (hQ k (q1 k q).1) (fun r => (q2 k r).2.2 q) (q1 k q).2
  ·have hk := q3 k (.inl q); exact s3 k hk.1 (fun r => hk.2 (rm k r).1) (fun e => hk.2 (e ▸ hg))
 ·refine Below.heap_setCell _ _ _ _ (fun e => ?_)
  subst e
  rcases q with (q | q) | (q | q)
  ·exact (rm _ q).2 rfl
  ·have := q.1; omega
  ·exact (q3 _ (.inr (.inl q))).2 hg
  ·exact (hG _ q).2 hg
 ·intro k q
  exact ⟨.inl (q1 k q).1, (q1 k q).2⟩
 ·intro k q
  rcases q with q | q
  ·exact ⟨.inl (q2 k q).1, (q2 k q).2⟩
  ·exact ⟨.inr q, by have := q.1; omega, fun r => by have := hQ k (q1 k r).1; have := q.1; omega⟩
 ·intro k q
  rcases q with q | (q | q) | q
  ·exact .inl (q3' k (.inl q))
  ·exact .inl (q3' k (.inr (.inl q)))
  ·exact .inr q
  ·exact .inl (q3' k (.inr (.inr q)))
 ·intro k q
  have hk : k < W.heap.size ∧ ¬ Q k := by
   rcases q with q | q
   ·exact q4 k q
   ·exact hG k q
  exact ⟨by rw [World.size_setCell]; omega, fun r => by
   rcases r with r | r
   ·exact hk.2 r
   ·have := r.1; omega⟩
 ·exact ((OnlyF.of_below f1).trans2 on (fun i hi => .inl (rm i hi).1)).setCell (p := ⟨g, 3, none⟩) hg _
end
end Go.Proofs.YtcenijdaacbgpaaGreat.L
