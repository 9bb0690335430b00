/- The iterator over the terms of a plus k times b: each term that is not nothing is handed to yield, in its order. -/
import Derived.Test.YteekpdlkdpkegaaComb
import Derived.WalkMore
import Derived.Deep.Cut
import Derived.Deep.CutBlock
import Derived.Deep.DeepCutAuto
namespace Go.Proofs.Yteekpdlkdpkegaa.L
open Go.RowKit Go.Shelf Go.Proofs.Yteekpdlkdpkegaa.S
set_option linter.unusedVariables false
set_option linter.unusedSimpArgs false
attribute [local go_sem] Oper.semAt_some

/-- Where the ways of a round meet: the next term lies in a block of the round's own. -/
def Cut1 (k : Int) (xs ys : List T) (i j : Nat) (wr : World) (s5 s6 s9 : Value) (wc : World) : Prop :=
  ∃ (i' j' g : Nat) (t : T), s5 = .int .i64 i' ∧ s6 = .int .i64 j' ∧ s9 = .pointer (some ⟨g, 0, none⟩) ∧ wc.cell? ⟨g, 0, none⟩ = some (.int .i64 t.1) ∧ wc.cell? ⟨g, 1, none⟩ = some (.int .i64 t.2) ∧
    Next k xs ys i j t i' j' ∧ i' ≤ xs.length ∧ j' ≤ ys.length ∧ i + j < i' + j' ∧ Below wr.heap.size wr wc

theorem cell_set2 {W : World} {g b o : Nat} {u v x : Value} (h : W.cell? ⟨b, o, none⟩ = some x) (hne : b ≠ g) : ((W.setCell ⟨g, 0, none⟩ u).setCell ⟨g, 1, none⟩ v).cell? ⟨b, o, none⟩ = some x := by
  rw [World.cell?_setCell_other _ _ _ _ (by simp <;> omega), World.cell?_setCell_other _ _ _ _ (by simp <;> omega)]; exact h
theorem cell_one2 {W : World} {g : Nat} {u v a b : Value} (h0 : W.cell? ⟨g, 0, none⟩ = some a) (h1 : W.cell? ⟨g, 1, none⟩ = some b) :
    ((W.setCell ⟨g, 0, none⟩ u).setCell ⟨g, 1, none⟩ v).cell? ⟨g, 0, none⟩ = some u ∧ ((W.setCell ⟨g, 0, none⟩ u).setCell ⟨g, 1, none⟩ v).cell? ⟨g, 1, none⟩ = some v := by
  refine ⟨?_, ?_⟩
  · rw [World.cell?_setCell_other _ _ _ _ (by simp)]; exact World.cell?_setCell_same _ _ _ h0
  · exact World.cell?_setCell_same _ _ _ ((World.cell?_setCell_other _ _ _ _ (by simp)).trans h1)

def encT (t : T) : Array Value := #[.agg #[.int .i64 t.1, .int .i64 t.2]]

set_option maxRecDepth 100000 in
set_option maxHeartbeats 1600000 in
theorem iter_in (n : Nat) (hn : 1 ≤ n) (l c n₀ : Nat) (a b : Option Addr) (ka kb : Nat) (o1 o2 : Bool) (l1 h1 l2 h2 : Nat) (xs ys : List T) (k : Int) (k0 : 0 ≤ k) (k1 : k < 2147483647) (hx : linOk xs = true) (hy : linOk ys = true)
    (hh1 : h1 ≤ n₀) (hh2 : h2 ≤ n₀)
    (J Jx : List T → World → Prop)
    (hY : ∀ pre x W, J pre W → pre.length < xs.length + ys.length → YieldAt Fence.wide (n - 1) Try.prog l (encT x) W fun e W' =>
      (e = .returned (.bool true) ∧ J (pre ++ [x]) W' ∧ Kp n₀ c (.slice a xs.length ka) (.slice b ys.length kb) (.int .i64 k) W W') ∨ (e = .returned (.bool false) ∧ Jx (pre ++ [x]) W'))
    (W : World) (hW : n₀ ≤ W.heap.size) (hJ : AbidesFrom W.heap.size J)
    (h3 : Three c (.slice a xs.length ka) (.slice b ys.length kb) (.int .i64 k) W) (t1 : Terms o1 l1 h1 W (.slice a xs.length ka) xs) (t2 : Terms o2 l2 h2 W (.slice b ys.length kb) ys) (h0 : J [] W) :
    CallsIn Fence.wide n Try.prog 162 #[.func (.yield l) #[] #[], .pointer (some ⟨c, 0, none⟩), .pointer (some ⟨c + 1, 0, none⟩), .pointer (some ⟨c + 2, 0, none⟩)] W fun e W' => (∃ v, e = .returned v) ∧
      ((∃ zs, zs = mrg k xs ys ∧ J zs W') ∨ (∃ pre, pre <+: mrg k xs ys ∧ Jx pre W')) := by
  obtain ⟨_, _, e1, la1, ba1⟩ := t1.shape
  simp only [Value.slice.injEq] at e1
  obtain ⟨rfl, _, rfl⟩ := e1
  obtain ⟨_, _, e2, la2, ba2⟩ := t2.shape
  simp only [Value.slice.injEq] at e2
  obtain ⟨rfl, _, rfl⟩ := e2
  have nx := linOk_length hx
  have ny := linOk_length hy
  refine callsIn_of_wp Try.func162 rfl trivial ?_ rfl
  simp only [Try.ntmps162, List.size_toArray, List.length_cons, List.length_nil, Nat.reduceAdd, Nat.reduceSub, Array.replicate_succ, Array.replicate_zero, List.push_toArray, List.append_toArray, List.nil_append, List.cons_append]
  refine wpIn_wide.2 ?_
  go_wp2_with fail
  go_step3
  go_wp2_with fail
  go_step3
  go_wp2_with fail
  go_loopw [5, 6] (fun p q wr => ∃ (i j : Nat) (pre : List T), p = .int .i64 i ∧ q = .int .i64 j ∧ i ≤ xs.length ∧ j ≤ ys.length ∧ Sofar k xs ys i j pre ∧ J pre wr ∧ W.heap.size ≤ wr.heap.size ∧ Three c (.slice a xs.length ka) (.slice b ys.length kb) (.int .i64 k) wr ∧ Terms o1 l1 h1 wr (.slice a xs.length ka) xs ∧ Terms o2 l2 h2 wr (.slice b ys.length kb) ys)
    (fun p q wr => (xs.length - (intOf p).toNat) + (ys.length - (intOf q).toNat))
  case atStart => exact ⟨0, 0, [], rfl, rfl, Nat.zero_le _, Nat.zero_le _, Sofar.start k xs ys, h0, Nat.le_refl _, h3, t1, t2⟩
  case round =>
    obtain ⟨i, j, pre, rfl, rfl, hi, hj, hs, hJs, hz, h3r, t1r, t2r⟩ := hrel
    have ca := h3r.1.cell
    have cb := h3r.2.1.cell
    have ck := h3r.2.2.cell
    go_wp2_with fail
    go_quiet (fail)
    generalize hq : wr.drewN _ = wq
    have bq : Below wr.heap.size wr wq := by rw [← hq]; (repeat (first | with_reducible exact Below.refl _ _ | with_reducible assumption | with_reducible refine Below.drew ?_ | with_reducible refine bdrewN ?_ _ | ((with_reducible refine balloc ?_ ?_ _); (focus (first | with_reducible exact Nat.le_refl _ | (simp; done) | omega | (simp; omega) | exact Nat.le_refl _))) | ((with_reducible refine bset ?_ ?_ _); (focus (first | with_reducible exact Nat.le_refl _ | (simp; done) | omega | (simp; omega) | exact Nat.le_refl _)))))
    have h3q : Three c (.slice a xs.length ka) (.slice b ys.length kb) (.int .i64 k) wq := by rw [← hq]; exact h3r
    have t1q := t1r.keep (B := h1) (show Below h1 wr wq by rw [← hq]; (repeat (first | with_reducible exact Below.refl _ _ | with_reducible assumption | with_reducible refine Below.drew ?_ | with_reducible refine bdrewN ?_ _ | ((with_reducible refine balloc ?_ ?_ _); (focus (first | with_reducible exact Nat.le_refl _ | (simp; done) | omega | (simp; omega) | exact Nat.le_refl _))) | ((with_reducible refine bset ?_ ?_ _); (focus (first | with_reducible exact Nat.le_refl _ | (simp; done) | omega | (simp; omega) | exact Nat.le_refl _)))))) (Nat.le_refl _)
    have t2q := t2r.keep (B := h2) (show Below h2 wr wq by rw [← hq]; (repeat (first | with_reducible exact Below.refl _ _ | with_reducible assumption | with_reducible refine Below.drew ?_ | with_reducible refine bdrewN ?_ _ | ((with_reducible refine balloc ?_ ?_ _); (focus (first | with_reducible exact Nat.le_refl _ | (simp; done) | omega | (simp; omega) | exact Nat.le_refl _))) | ((with_reducible refine bset ?_ ?_ _); (focus (first | with_reducible exact Nat.le_refl _ | (simp; done) | omega | (simp; omega) | exact Nat.le_refl _)))))) (Nat.le_refl _)
    have zq := bq.size
    clear hq ca cb ck
    have ca := h3q.1.cell
    have cb := h3q.2.1.cell
    have ck := h3q.2.2.cell
    have hc0 : c < wq.heap.size := h3q.1.lt
    have hc1 : c + 1 < wq.heap.size := h3q.2.1.lt
    have hc2 : c + 2 < wq.heap.size := h3q.2.2.lt
    go_upto_block 2 with fail
    go_cut [5, 6, 7, 8, 9] (fun s5 s6 s7 s8 s9 wx => Cut1 k xs ys i j wr s5 s6 s9 wx)
    case rest =>
      obtain ⟨i', j', g, t, rfl, rfl, rfl, d0, d1, hnx, hi', hj', hm, be⟩ := hcut
      have hJc := hJ pre wr wc none hJs (grown_of_below be) (by simp)
      have zc := be.size
      have h3c : Three c (.slice a xs.length ka) (.slice b ys.length kb) (.int .i64 k) wc :=
        ⟨h3r.1.kept (grown_of_below be) (by simp), h3r.2.1.kept (grown_of_below be) (by simp), h3r.2.2.kept (grown_of_below be) (by simp)⟩
      have t1c := t1r.keep (B := h1) (be.mono (by omega)) (Nat.le_refl _)
      have t2c := t2r.keep (B := h2) (be.mono (by omega)) (Nat.le_refl _)
      obtain ⟨tv, tk⟩ := t
      simp only at d0 d1
      by_cases h0 : tk = 0
      · have hmi := Lib.hid (hs.miss hnx h0)
        have hb0 : (tk != 0) = false := by simp [h0]
        clear h0 hnx
        go_wp2_with fail
        go_roundw
        case rel => exact ⟨i', j', pre, rfl, rfl, hi', hj', hmi.out, hJc, by omega, h3c, t1c, t2c⟩
        case measure => simp [intOf]; omega
      · have hlt := hs.lt hnx h0
        have hmi := Lib.hid (hs.hit hnx h0)
        have hb0 : (tk != 0) = true := by simp [h0]
        clear h0 hnx
        obtain ⟨fn, tmps, assign, body, hy, hR⟩ := hY pre (tv, tk) wc hJc hlt
        simp only [encT] at hy
        go_upto_region 13 with fail
        refine (wpIn_wide (n := n)).1 ?_
        gi_wp2
        refine hR.mono ?_
        rintro e W3 (⟨rfl, hJ3, hk3, hk4⟩ | ⟨rfl, hJx3⟩)
        · have z3 := hk3.size
          have h3d := hk4 h3c
          have t1d := t1c.keep hk3 hh1
          have t2d := t2c.keep hk3 hh2
          gi_wp2
          go_wp2_with fail
          go_roundw
          case rel => exact ⟨i', j', _, rfl, rfl, hi', hj', hmi.out, hJ3, by omega, h3d, t1d, t2d⟩
          case measure => simp [intOf]; omega
        · have hpt := hmi.out.part
          gi_wp2
          go_wp2_with fail
          simp only [Exit.noGoto]
          go_end0
          exact ⟨⟨_, rfl⟩, .inr ⟨_, hpt, hJx3⟩⟩
    case first =>
      by_cases hA : i < xs.length
      · by_cases hB : j < ys.length
        · obtain ⟨b1, f1, x1, y1, ea, p1, q1, c1, d1, u1, v1, v2⟩ := t1q.at hA
          obtain ⟨b2, f2, x2, y2, eb, p2, q2, c2, d2, u2, v3, v4⟩ := t2q.at hB
          obtain rfl := ea
          obtain rfl := eb
          have s1 : b1 < wq.heap.size := World.block_lt_of_cell? wq _ c1
          have s2 : b2 < wq.heap.size := World.block_lt_of_cell? wq _ c2
          obtain ⟨-, -, g3, g4⟩ := linOk_at hx u1
          obtain ⟨-, -, g7, g8⟩ := linOk_at hy u2
          rcases Int.lt_trichotomy x1 x2 with hlt | heq | hgt
          · have hd : decide (x1 < x2) = true := decide_eq_true hlt
            have hnx := Lib.hid (next_lt (k := k) u1 u2 hlt)
            clear u1 u2 hlt
            go_wp2_with fail
            go_quiet (fail)
            go_wp2_with fail
            go_meet
            case rel => exact ⟨i + 1, j, wq.heap.size, (x1, y1), by go_num, rfl, rfl, by go_simp, by go_simp, hnx.out, by omega, hj, by omega, by (repeat (first | with_reducible exact Below.refl _ _ | with_reducible assumption | with_reducible refine Below.drew ?_ | with_reducible refine bdrewN ?_ _ | ((with_reducible refine balloc ?_ ?_ _); (focus (first | with_reducible exact Nat.le_refl _ | (simp; done) | omega | (simp; omega) | exact Nat.le_refl _))) | ((with_reducible refine bset ?_ ?_ _); (focus (first | with_reducible exact Nat.le_refl _ | (simp; done) | omega | (simp; omega) | exact Nat.le_refl _)))))⟩
          · have hd : decide (x1 < x2) = false := decide_eq_false (by omega)
            have hd2 : decide (x2 < x1) = false := decide_eq_false (by omega)
            have hnx := Lib.hid (next_eq (k := k) u1 u2 heq)
            rw [show pl (x1, y1) (tm k (x2, y2)) = (x1, (y1 + y2 * k) % 2147483647) from by simp [pl, tm]] at hnx
            have em := em_bd (y2 * k)
            clear u1 u2 heq
            go_wp2_with fail
            go_quiet (fail)
            go_wp2_with fail
            go_quiet (fail)
            go_wp2_with fail
            generalize hz1 : ((wq.alloc _).drewN _).drewN _ = wz
            have bz : Below wq.heap.size wq wz := by rw [← hz1]; (repeat (first | with_reducible exact Below.refl _ _ | with_reducible assumption | with_reducible refine Below.drew ?_ | with_reducible refine bdrewN ?_ _ | ((with_reducible refine balloc ?_ ?_ _); (focus (first | with_reducible exact Nat.le_refl _ | (simp; done) | omega | (simp; omega) | exact Nat.le_refl _))) | ((with_reducible refine bset ?_ ?_ _); (focus (first | with_reducible exact Nat.le_refl _ | (simp; done) | omega | (simp; omega) | exact Nat.le_refl _)))))
            have zz : wq.heap.size + 1 ≤ wz.heap.size := by rw [← hz1]; simp
            have ca' := cell_keep bz ca
            have cb' := cell_keep bz cb
            have ck' := cell_keep bz ck
            have c1' := cell_keep bz c1
            have d1' := cell_keep bz d1
            have c2' := cell_keep bz c2
            have d2' := cell_keep bz d2
            have hg0 : wz.cell? ⟨wq.heap.size, 0, none⟩ = some (.int .i64 0) := by rw [← hz1]; simp
            have hg1 : wz.cell? ⟨wq.heap.size, 1, none⟩ = some (.int .i64 0) := by rw [← hz1]; simp
            have fg0 : wz.frozen? ⟨wq.heap.size, 0, none⟩ = false := by rw [← hz1]; simp
            have fg1 : wz.frozen? ⟨wq.heap.size, 1, none⟩ = false := by rw [← hz1]; simp
            clear hz1 ca cb ck c1 d1 c2 d2
            go_region_held3 (fun w' => w'.cell? ⟨c, 0, none⟩ = some (.slice (some ⟨b1, f1, none⟩) xs.length ka) ∧ w'.cell? ⟨b1, f1 + i * 2, none⟩ = some (.int .i64 x1) ∧ w'.cell? ⟨b1, f1 + i * 2 + 1, none⟩ = some (.int .i64 y1) ∧ w'.cell? ⟨c + 1, 0, none⟩ = some (.slice (some ⟨b2, f2, none⟩) ys.length kb) ∧ w'.cell? ⟨b2, f2 + j * 2, none⟩ = some (.int .i64 x2) ∧ w'.cell? ⟨b2, f2 + j * 2 + 1, none⟩ = some (.int .i64 y2) ∧ w'.cell? ⟨c + 2, 0, none⟩ = some (.int .i64 k))
              (first | exact ⟨ca', c1', d1', cb', c2', d2', ck'⟩ | exact ⟨cell_keep r1 ca', cell_keep r1 c1', cell_keep r1 d1', cell_keep r1 cb', cell_keep r1 c2', cell_keep r1 d2', cell_keep r1 ck'⟩ | exact ⟨cell_keep r2 (cell_keep r1 ca'), cell_keep r2 (cell_keep r1 c1'), cell_keep r2 (cell_keep r1 d1'), cell_keep r2 (cell_keep r1 cb'), cell_keep r2 (cell_keep r1 c2'), cell_keep r2 (cell_keep r1 d2'), cell_keep r2 (cell_keep r1 ck')⟩ | exact ⟨cell_set2 (cell_keep r2 (cell_keep r1 ca')) (by omega), cell_set2 (cell_keep r2 (cell_keep r1 c1')) (by omega), cell_set2 (cell_keep r2 (cell_keep r1 d1')) (by omega), cell_set2 (cell_keep r2 (cell_keep r1 cb')) (by omega), cell_set2 (cell_keep r2 (cell_keep r1 c2')) (by omega), cell_set2 (cell_keep r2 (cell_keep r1 d2')) (by omega), cell_set2 (cell_keep r2 (cell_keep r1 ck')) (by omega)⟩)
              (first
                | (go_at_call 163; refine (times_term x2 y2 k _ (by omega) g8 k0 k1).mono ?_; rintro e w1 ⟨rfl, r1⟩; have hg0' := cell_keep r1 hg0; have hg1' := cell_keep r1 hg1; have fg0' := (r1.frozen (p := ⟨wq.heap.size, 0, none⟩) (World.block_lt_of_cell? wz _ hg0)).trans fg0; have fg1' := (r1.frozen (p := ⟨wq.heap.size, 1, none⟩) (World.block_lt_of_cell? wz _ hg1)).trans fg1)
                | (go_at_call 164; refine (plus_term x1 y1 x2 (y2 * k % 2147483647) _ (by omega) g4 em.1 em.2).mono ?_; rintro e w2 ⟨rfl, r2⟩; have hg0b := cell_keep r2 hg0'; have hg1b := cell_keep r2 hg1'; have fg0b := (r2.frozen (p := ⟨wq.heap.size, 0, none⟩) (World.block_lt_of_cell? w1 _ hg0')).trans fg0'; have fg1b := (r2.frozen (p := ⟨wq.heap.size, 1, none⟩) (World.block_lt_of_cell? w1 _ hg1')).trans fg1'))
            go_wp2_with fail
            have bm1 : Below wr.heap.size wr w1 := bq.trans ((show Below wr.heap.size wq wz.drew from (bz.drew).mono zq).trans (r1.mono (show wr.heap.size ≤ wz.drew.heap.size from Nat.le_trans (show wr.heap.size ≤ wz.heap.size by omega) (Nat.le_refl _))))
            have bm : Below wr.heap.size wr w2 := bm1.trans (r2.mono bm1.size)
            go_meet
            case rel => exact ⟨i + 1, j + 1, wq.heap.size, (x1, (y1 + y2 * k) % 2147483647), by go_num, by go_num, rfl, (cell_one2 hg0b hg1b).1, (cell_one2 hg0b hg1b).2, hnx.out, by omega, by omega, by omega, by (repeat (first | with_reducible exact Below.refl _ _ | with_reducible assumption | with_reducible refine Below.drew ?_ | with_reducible refine bdrewN ?_ _ | ((with_reducible refine balloc ?_ ?_ _); (focus (first | with_reducible exact Nat.le_refl _ | (simp; done) | omega | (simp; omega) | exact Nat.le_refl _))) | ((with_reducible refine bset ?_ ?_ _); (focus (first | with_reducible exact Nat.le_refl _ | (simp; done) | omega | (simp; omega) | exact Nat.le_refl _)))))⟩
          · have hd : decide (x1 < x2) = false := decide_eq_false (by omega)
            have hd2 : decide (x2 < x1) = true := decide_eq_true hgt
            have hnx := Lib.hid (next_gt (k := k) u1 u2 hgt)
            clear u1 u2 hgt
            go_wp2_with fail
            go_quiet (fail)
            go_wp2_with fail
            go_quiet (fail)
            go_wp2_with fail
            generalize hz1 : ((wq.alloc _).drewN _).drewN _ = wz
            have bz : Below wq.heap.size wq wz := by rw [← hz1]; (repeat (first | with_reducible exact Below.refl _ _ | with_reducible assumption | with_reducible refine Below.drew ?_ | with_reducible refine bdrewN ?_ _ | ((with_reducible refine balloc ?_ ?_ _); (focus (first | with_reducible exact Nat.le_refl _ | (simp; done) | omega | (simp; omega) | exact Nat.le_refl _))) | ((with_reducible refine bset ?_ ?_ _); (focus (first | with_reducible exact Nat.le_refl _ | (simp; done) | omega | (simp; omega) | exact Nat.le_refl _)))))
            have zz : wq.heap.size + 1 ≤ wz.heap.size := by rw [← hz1]; simp
            have ca' := cell_keep bz ca
            have cb' := cell_keep bz cb
            have ck' := cell_keep bz ck
            have c1' := cell_keep bz c1
            have d1' := cell_keep bz d1
            have c2' := cell_keep bz c2
            have d2' := cell_keep bz d2
            have hg0 : wz.cell? ⟨wq.heap.size, 0, none⟩ = some (.int .i64 0) := by rw [← hz1]; simp
            have hg1 : wz.cell? ⟨wq.heap.size, 1, none⟩ = some (.int .i64 0) := by rw [← hz1]; simp
            have fg0 : wz.frozen? ⟨wq.heap.size, 0, none⟩ = false := by rw [← hz1]; simp
            have fg1 : wz.frozen? ⟨wq.heap.size, 1, none⟩ = false := by rw [← hz1]; simp
            clear hz1 ca cb ck c1 d1 c2 d2
            go_region_held3 (fun w' => w'.cell? ⟨c + 1, 0, none⟩ = some (.slice (some ⟨b2, f2, none⟩) ys.length kb) ∧ w'.cell? ⟨b2, f2 + j * 2, none⟩ = some (.int .i64 x2) ∧ w'.cell? ⟨b2, f2 + j * 2 + 1, none⟩ = some (.int .i64 y2) ∧ w'.cell? ⟨c + 2, 0, none⟩ = some (.int .i64 k))
              (first | exact ⟨cb', c2', d2', ck'⟩ | exact ⟨cell_keep r1 cb', cell_keep r1 c2', cell_keep r1 d2', cell_keep r1 ck'⟩ | exact ⟨cell_set2 (cell_keep r1 cb') (by omega), cell_set2 (cell_keep r1 c2') (by omega), cell_set2 (cell_keep r1 d2') (by omega), cell_set2 (cell_keep r1 ck') (by omega)⟩)
              (first
                | (go_at_call 163; refine (times_term x2 y2 k _ (by omega) g8 k0 k1).mono ?_; rintro e w1 ⟨rfl, r1⟩; have hg0' := cell_keep r1 hg0; have hg1' := cell_keep r1 hg1; have fg0' := (r1.frozen (p := ⟨wq.heap.size, 0, none⟩) (World.block_lt_of_cell? wz _ hg0)).trans fg0; have fg1' := (r1.frozen (p := ⟨wq.heap.size, 1, none⟩) (World.block_lt_of_cell? wz _ hg1)).trans fg1))
            go_wp2_with fail
            have bm : Below wr.heap.size wr w1 := bq.trans ((show Below wr.heap.size wq wz.drew from (bz.drew).mono zq).trans (r1.mono (show wr.heap.size ≤ wz.drew.heap.size from Nat.le_trans (show wr.heap.size ≤ wz.heap.size by omega) (Nat.le_refl _))))
            go_meet
            case rel => exact ⟨i, j + 1, wq.heap.size, tm k (x2, y2), rfl, by go_num, rfl, (cell_one2 hg0' hg1').1, (cell_one2 hg0' hg1').2, hnx.out, hi, by omega, by omega, by (repeat (first | with_reducible exact Below.refl _ _ | with_reducible assumption | with_reducible refine Below.drew ?_ | with_reducible refine bdrewN ?_ _ | ((with_reducible refine balloc ?_ ?_ _); (focus (first | with_reducible exact Nat.le_refl _ | (simp; done) | omega | (simp; omega) | exact Nat.le_refl _))) | ((with_reducible refine bset ?_ ?_ _); (focus (first | with_reducible exact Nat.le_refl _ | (simp; done) | omega | (simp; omega) | exact Nat.le_refl _)))))⟩
        · obtain ⟨b1, f1, x1, y1, ea, p1, q1, c1, d1, u1, v1, v2⟩ := t1q.at hA
          obtain rfl := ea
          have s1 : b1 < wq.heap.size := World.block_lt_of_cell? wq _ c1
          have hnx := Lib.hid (next_a (k := k) (ys := ys) (j := j) u1 (by omega))
          rw [show decide (j < ys.length) = false from decide_eq_false hB, show decide (i < xs.length) = true from decide_eq_true hA]
          clear u1 hB
          go_wp2_with fail
          go_quiet (fail)
          go_wp2_with fail
          go_meet
          case rel => exact ⟨i + 1, j, wq.heap.size, (x1, y1), by go_num, rfl, rfl, by go_simp, by go_simp, hnx.out, by omega, hj, by omega, by (repeat (first | with_reducible exact Below.refl _ _ | with_reducible assumption | with_reducible refine Below.drew ?_ | with_reducible refine bdrewN ?_ _ | ((with_reducible refine balloc ?_ ?_ _); (focus (first | with_reducible exact Nat.le_refl _ | (simp; done) | omega | (simp; omega) | exact Nat.le_refl _))) | ((with_reducible refine bset ?_ ?_ _); (focus (first | with_reducible exact Nat.le_refl _ | (simp; done) | omega | (simp; omega) | exact Nat.le_refl _)))))⟩
      · by_cases hB : j < ys.length
        · obtain ⟨b2, f2, x2, y2, eb, p2, q2, c2, d2, u2, v3, v4⟩ := t2q.at hB
          obtain rfl := eb
          have s2 : b2 < wq.heap.size := World.block_lt_of_cell? wq _ c2
          obtain ⟨-, -, g7, g8⟩ := linOk_at hy u2
          have hnx := Lib.hid (next_b (k := k) (xs := xs) (i := i) u2 (by omega))
          rw [show decide (j < ys.length) = true from decide_eq_true hB, show decide (i < xs.length) = false from decide_eq_false hA]
          clear u2 hA
          go_wp2_with fail
          go_quiet (fail)
          go_wp2_with fail
          go_quiet (fail)
          go_wp2_with fail
          generalize hz1 : ((wq.alloc _).drewN _).drewN _ = wz
          have bz : Below wq.heap.size wq wz := by rw [← hz1]; (repeat (first | with_reducible exact Below.refl _ _ | with_reducible assumption | with_reducible refine Below.drew ?_ | with_reducible refine bdrewN ?_ _ | ((with_reducible refine balloc ?_ ?_ _); (focus (first | with_reducible exact Nat.le_refl _ | (simp; done) | omega | (simp; omega) | exact Nat.le_refl _))) | ((with_reducible refine bset ?_ ?_ _); (focus (first | with_reducible exact Nat.le_refl _ | (simp; done) | omega | (simp; omega) | exact Nat.le_refl _)))))
          have zz : wq.heap.size + 1 ≤ wz.heap.size := by rw [← hz1]; simp
          have ca' := cell_keep bz ca
          have cb' := cell_keep bz cb
          have ck' := cell_keep bz ck
          have c2' := cell_keep bz c2
          have d2' := cell_keep bz d2
          have hg0 : wz.cell? ⟨wq.heap.size, 0, none⟩ = some (.int .i64 0) := by rw [← hz1]; simp
          have hg1 : wz.cell? ⟨wq.heap.size, 1, none⟩ = some (.int .i64 0) := by rw [← hz1]; simp
          have fg0 : wz.frozen? ⟨wq.heap.size, 0, none⟩ = false := by rw [← hz1]; simp
          have fg1 : wz.frozen? ⟨wq.heap.size, 1, none⟩ = false := by rw [← hz1]; simp
          clear hz1 ca cb ck c2 d2
          go_region_held3 (fun w' => w'.cell? ⟨c + 1, 0, none⟩ = some (.slice (some ⟨b2, f2, none⟩) ys.length kb) ∧ w'.cell? ⟨b2, f2 + j * 2, none⟩ = some (.int .i64 x2) ∧ w'.cell? ⟨b2, f2 + j * 2 + 1, none⟩ = some (.int .i64 y2) ∧ w'.cell? ⟨c + 2, 0, none⟩ = some (.int .i64 k))
            (first | exact ⟨cb', c2', d2', ck'⟩ | exact ⟨cell_keep r1 cb', cell_keep r1 c2', cell_keep r1 d2', cell_keep r1 ck'⟩ | exact ⟨cell_set2 (cell_keep r1 cb') (by omega), cell_set2 (cell_keep r1 c2') (by omega), cell_set2 (cell_keep r1 d2') (by omega), cell_set2 (cell_keep r1 ck') (by omega)⟩)
            (first
              | (go_at_call 163; refine (times_term x2 y2 k _ (by omega) g8 k0 k1).mono ?_; rintro e w1 ⟨rfl, r1⟩; have hg0' := cell_keep r1 hg0; have hg1' := cell_keep r1 hg1; have fg0' := (r1.frozen (p := ⟨wq.heap.size, 0, none⟩) (World.block_lt_of_cell? wz _ hg0)).trans fg0; have fg1' := (r1.frozen (p := ⟨wq.heap.size, 1, none⟩) (World.block_lt_of_cell? wz _ hg1)).trans fg1))
          go_wp2_with fail
          have bm : Below wr.heap.size wr w1 := bq.trans ((show Below wr.heap.size wq wz.drew from (bz.drew).mono zq).trans (r1.mono (show wr.heap.size ≤ wz.drew.heap.size from Nat.le_trans (show wr.heap.size ≤ wz.heap.size by omega) (Nat.le_refl _))))
          go_meet
          case rel => exact ⟨i, j + 1, wq.heap.size, tm k (x2, y2), rfl, by go_num, rfl, (cell_one2 hg0' hg1').1, (cell_one2 hg0' hg1').2, hnx.out, hi, by omega, by omega, by (repeat (first | with_reducible exact Below.refl _ _ | with_reducible assumption | with_reducible refine Below.drew ?_ | with_reducible refine bdrewN ?_ _ | ((with_reducible refine balloc ?_ ?_ _); (focus (first | with_reducible exact Nat.le_refl _ | (simp; done) | omega | (simp; omega) | exact Nat.le_refl _))) | ((with_reducible refine bset ?_ ?_ _); (focus (first | with_reducible exact Nat.le_refl _ | (simp; done) | omega | (simp; omega) | exact Nat.le_refl _)))))⟩
        · have hst := Lib.hid (hs.stop (by omega) (by omega))
          rw [show decide (j < ys.length) = false from decide_eq_false hB, show decide (i < xs.length) = false from decide_eq_false hA]
          clear hA hB
          go_wp2_with fail
          go_quiet (fail)
          go_wp2_with fail
          go_quiet (fail)
          go_wp2_with fail
          simp only [Exit.noGoto]
          go_end0
          exact ⟨⟨_, rfl⟩, .inl ⟨pre, hst.out, hJ pre wr _ none hJs (grown_of_below (by (repeat (first | with_reducible exact Below.refl _ _ | with_reducible assumption | with_reducible refine Below.drew ?_ | with_reducible refine bdrewN ?_ _ | ((with_reducible refine balloc ?_ ?_ _); (focus (first | with_reducible exact Nat.le_refl _ | (simp; done) | omega | (simp; omega) | exact Nat.le_refl _))) | ((with_reducible refine bset ?_ ?_ _); (focus (first | with_reducible exact Nat.le_refl _ | (simp; done) | omega | (simp; omega) | exact Nat.le_refl _))))))) (by simp)⟩⟩
end Go.Proofs.Yteekpdlkdpkegaa.L
