/- B16: Comb Iter Coll LinAdd -/
import Derived.Test.YtcenijdaacbgpaaB4
import Derived.Test.YtcenijdaacbgpaaB4
import Derived.RangeFuncNested
import Derived.RangeFuncBound
import Derived.RangeFuncCalls
import Derived.RangeFuncLeaves
import Derived.RangeFuncBox
import Derived.Shelf.Abstract
import Derived.Shelf.RegionOpen
import Derived.OwnWalkIn
import Derived.TacticsInMore
import Derived.LoopNIn
import Derived.LoopIn
import Derived.Maps.AppendAt
import Derived.Deep.RegionWith
import Derived.StillTailTactics
import Derived.WalkMore
import Derived.Deep.Cut
import Derived.Deep.CutBlock
import Derived.Deep.DeepCutAuto
set_option linter.unusedVariables false
set_option linter.unusedSimpArgs false
/- combined, combine: the terms of a plus k times b, ranged over and collected. -/
namespace Go.Proofs.Ytcenijdaacbgpaa.L
open Go.RowKit Go.Proofs.Ytcenijdaacbgpaa.S
set_option linter.unusedVariables false
set_option linter.unusedSimpArgs false

set_option maxHeartbeats 1600000 in
theorem times_term (x y k : Int) (w : World) (y0 : 0 ≤ y) (y1 : y < 2147483647) (k0 : 0 ≤ k) (k1 : k < 2147483647) :
    Calls Try.prog 75 #[.agg #[.int .i64 x, .int .i64 y], .int .i64 k] w fun e w' => e = .returned (.agg #[.int .i64 x, .int .i64 (y * k % 2147483647)]) ∧ Below w.heap.size w w' := by
  go_enter Try.func75, Try.ntmps75
  go_wp2_with fail
  go_region_with (go_at_call 85; refine (times_any y k _ y0 y1 k0 k1).mono ?_; rintro e w' ⟨rfl, rfl⟩)
  all_goals go_wp2_with fail
  all_goals exact bodyPost_ret (v := .agg #[.int .i64 x, .int .i64 (y * k % 2147483647)]) (by simp [results, Try.results75, go_sem]) rfl ⟨rfl, by (repeat (with_reducible first | exact bR _ _ | assumption | refine bD ?_ | refine bN ?_ _ | refine bA ?_ _ | refine bS ?_ _))⟩

set_option maxHeartbeats 1600000 in
theorem plus_term (x y u v : Int) (w : World) (y0 : 0 ≤ y) (y1 : y < 2147483647) (v0 : 0 ≤ v) (v1 : v < 2147483647) :
    Calls Try.prog 76 #[.agg #[.int .i64 x, .int .i64 y], .agg #[.int .i64 u, .int .i64 v]] w fun e w' => e = .returned (.agg #[.int .i64 x, .int .i64 ((y + v) % 2147483647)]) ∧ Below w.heap.size w w' := by
  go_enter Try.func76, Try.ntmps76
  go_wp2_with fail
  go_region_with (go_at_call 86; refine (plus_any y v _ y0 y1 v0 v1).mono ?_; rintro e w' ⟨rfl, rfl⟩)
  all_goals go_wp2_with fail
  all_goals exact bodyPost_ret (v := .agg #[.int .i64 x, .int .i64 ((y + v) % 2147483647)]) (by simp [results, Try.results76, go_sem]) rfl ⟨rfl, by (repeat (with_reducible first | exact bR _ _ | assumption | refine bD ?_ | refine bN ?_ _ | refine bA ?_ _ | refine bS ?_ _))⟩

/-- What a round must keep for the iterator: what lay below n₀, and its three boxes. -/
def Three (c : Nat) (va vb vk : Value) (W : World) : Prop := Boxed W c 39 va ∧ Boxed W (c + 1) 39 vb ∧ Boxed W (c + 2) 64 vk
def Kp (n₀ c : Nat) (va vb vk : Value) (W W' : World) : Prop := Below n₀ W W' ∧ (Three c va vb vk W → Three c va vb vk W')

set_option maxHeartbeats 1600000 in
theorem combined_any (a b : Option Addr) (la ca lb cb : Nat) (k : Int) (w : World) :
    Calls Try.prog 55 #[.agg #[.slice a la ca], .agg #[.slice b lb cb], .int .i64 k] w fun e w' =>
      e = .returned (.func (.func 74) #[] #[.pointer (some ⟨w.heap.size, 0, none⟩), .pointer (some ⟨w.heap.size + 1, 0, none⟩), .pointer (some ⟨w.heap.size + 2, 0, none⟩)]) ∧
      w' = ((w.alloc (.cells #[.slice a la ca] 39)).alloc (.cells #[.slice b lb cb] 39)).alloc (.cells #[.int .i64 k] 64) := by
  have hmf : ∀ (fn : Fn) (first cap : Array Value) (w : World), (Instr.makeFunc fn first cap).run Try.prog w = .ok (.func fn first cap) w := fun _ _ _ _ => rfl
  go_enter Try.func55, Try.ntmps55
  go_wp2_with fail
  go_ret
  exact ⟨rfl, rfl⟩
end Go.Proofs.Ytcenijdaacbgpaa.L

/- The iterator over the terms of a plus k times b: each term that is not nothing is handed to yield, in its order. -/
namespace Go.Proofs.Ytcenijdaacbgpaa.L
open Go.RowKit Go.Shelf Go.Proofs.Ytcenijdaacbgpaa.S
set_option linter.unusedVariables false
set_option linter.unusedSimpArgs false
attribute [local go_sem] Oper.semAt_some

/-- Where the ways of a round meet: the next term lies in a block of the round's own. -/
def Cut1 (k : Int) (xs ys : List T) (i j : Nat) (wr : World) (s5 s6 s9 : Value) (wc : World) : Prop :=
  ∃ (i' j' g : Nat) (t : T), s5 = .int .i64 i' ∧ s6 = .int .i64 j' ∧ s9 = .pointer (some ⟨g, 0, none⟩) ∧ wc.cell? ⟨g, 0, none⟩ = some (.int .i64 t.1) ∧ wc.cell? ⟨g, 1, none⟩ = some (.int .i64 t.2) ∧
    Next k xs ys i j t i' j' ∧ i' ≤ xs.length ∧ j' ≤ ys.length ∧ i + j < i' + j' ∧ Below wr.heap.size wr wc

theorem cell_set2 {W : World} {g b o : Nat} {u v x : Value} (h : W.cell? ⟨b, o, none⟩ = some x) (hne : b ≠ g) : ((W.setCell ⟨g, 0, none⟩ u).setCell ⟨g, 1, none⟩ v).cell? ⟨b, o, none⟩ = some x := by
  rw [World.cell?_setCell_other _ _ _ _ (by simp <;> omega), World.cell?_setCell_other _ _ _ _ (by simp <;> omega)]; exact h
theorem cell_one2 {W : World} {g : Nat} {u v a b : Value} (h0 : W.cell? ⟨g, 0, none⟩ = some a) (h1 : W.cell? ⟨g, 1, none⟩ = some b) :
    ((W.setCell ⟨g, 0, none⟩ u).setCell ⟨g, 1, none⟩ v).cell? ⟨g, 0, none⟩ = some u ∧ ((W.setCell ⟨g, 0, none⟩ u).setCell ⟨g, 1, none⟩ v).cell? ⟨g, 1, none⟩ = some v := by
  refine ⟨?_, ?_⟩
  · rw [World.cell?_setCell_other _ _ _ _ (by simp)]; exact World.cell?_setCell_same _ _ _ h0
  · exact World.cell?_setCell_same _ _ _ ((World.cell?_setCell_other _ _ _ _ (by simp)).trans h1)

def encT (t : T) : Array Value := #[.agg #[.int .i64 t.1, .int .i64 t.2]]

set_option maxRecDepth 100000 in
set_option maxHeartbeats 1600000 in
theorem iter_in (n : Nat) (hn : 1 ≤ n) (l c n₀ : Nat) (a b : Option Addr) (ka kb : Nat) (o1 o2 : Bool) (l1 h1 l2 h2 : Nat) (xs ys : List T) (k : Int) (k0 : 0 ≤ k) (k1 : k < 2147483647) (hx : linOk xs = true) (hy : linOk ys = true)
    (hh1 : h1 ≤ n₀) (hh2 : h2 ≤ n₀)
    (J Jx : List T → World → Prop)
    (hY : ∀ pre x W, J pre W → pre.length < xs.length + ys.length → YieldAt Fence.wide (n - 1) Try.prog l (encT x) W fun e W' =>
      (e = .returned (.bool true) ∧ J (pre ++ [x]) W' ∧ Kp n₀ c (.slice a xs.length ka) (.slice b ys.length kb) (.int .i64 k) W W') ∨ (e = .returned (.bool false) ∧ Jx (pre ++ [x]) W'))
    (W : World) (hW : n₀ ≤ W.heap.size) (hJ : AbidesFrom W.heap.size J)
    (h3 : Three c (.slice a xs.length ka) (.slice b ys.length kb) (.int .i64 k) W) (t1 : Terms o1 l1 h1 W (.slice a xs.length ka) xs) (t2 : Terms o2 l2 h2 W (.slice b ys.length kb) ys) (h0 : J [] W) :
    CallsIn Fence.wide n Try.prog 74 #[.func (.yield l) #[] #[], .pointer (some ⟨c, 0, none⟩), .pointer (some ⟨c + 1, 0, none⟩), .pointer (some ⟨c + 2, 0, none⟩)] W fun e W' => (∃ v, e = .returned v) ∧
      ((∃ zs, zs = mrg k xs ys ∧ J zs W') ∨ (∃ pre, pre <+: mrg k xs ys ∧ Jx pre W')) := by
  obtain ⟨_, _, e1, la1, ba1⟩ := t1.shape
  simp only [Value.slice.injEq] at e1
  obtain ⟨rfl, _, rfl⟩ := e1
  obtain ⟨_, _, e2, la2, ba2⟩ := t2.shape
  simp only [Value.slice.injEq] at e2
  obtain ⟨rfl, _, rfl⟩ := e2
  have nx := linOk_length hx
  have ny := linOk_length hy
  refine callsIn_of_wp Try.func74 rfl trivial ?_ rfl
  simp only [Try.ntmps74, List.size_toArray, List.length_cons, List.length_nil, Nat.reduceAdd, Nat.reduceSub, Array.replicate_succ, Array.replicate_zero, List.push_toArray, List.append_toArray, List.nil_append, List.cons_append]
  refine wpIn_wide.2 ?_
  go_wp2_with fail
  go_step3
  go_wp2_with fail
  go_step3
  go_wp2_with fail
  go_loopw [5, 6] (fun p q wr => ∃ (i j : Nat) (pre : List T), p = .int .i64 i ∧ q = .int .i64 j ∧ i ≤ xs.length ∧ j ≤ ys.length ∧ Sofar k xs ys i j pre ∧ J pre wr ∧ W.heap.size ≤ wr.heap.size ∧ Three c (.slice a xs.length ka) (.slice b ys.length kb) (.int .i64 k) wr ∧ Terms o1 l1 h1 wr (.slice a xs.length ka) xs ∧ Terms o2 l2 h2 wr (.slice b ys.length kb) ys)
    (fun p q wr => (xs.length - (intOf p).toNat) + (ys.length - (intOf q).toNat))
  case atStart => exact ⟨0, 0, [], rfl, rfl, Nat.zero_le _, Nat.zero_le _, Sofar.start k xs ys, h0, Nat.le_refl _, h3, t1, t2⟩
  case round =>
    obtain ⟨i, j, pre, rfl, rfl, hi, hj, hs, hJs, hz, h3r, t1r, t2r⟩ := hrel
    have ca := h3r.1.cell
    have cb := h3r.2.1.cell
    have ck := h3r.2.2.cell
    go_wp2_with fail
    go_quiet (fail)
    generalize hq : wr.drewN _ = wq
    have bq : Below wr.heap.size wr wq := by rw [← hq]; (repeat (with_reducible first | exact bR _ _ | assumption | refine bD ?_ | refine bN ?_ _ | refine bA ?_ _ | refine bS ?_ _))
    have h3q : Three c (.slice a xs.length ka) (.slice b ys.length kb) (.int .i64 k) wq := by rw [← hq]; exact h3r
    have t1q := t1r.keep (B := h1) (show Below h1 wr wq by rw [← hq]; (repeat (with_reducible first | exact bR _ _ | assumption | refine bD ?_ | refine bN ?_ _ | refine bA ?_ _ | refine bS ?_ _))) (Nat.le_refl _)
    have t2q := t2r.keep (B := h2) (show Below h2 wr wq by rw [← hq]; (repeat (with_reducible first | exact bR _ _ | assumption | refine bD ?_ | refine bN ?_ _ | refine bA ?_ _ | refine bS ?_ _))) (Nat.le_refl _)
    have zq := bq.size
    clear hq ca cb ck
    have ca := h3q.1.cell
    have cb := h3q.2.1.cell
    have ck := h3q.2.2.cell
    have hc0 : c < wq.heap.size := h3q.1.lt
    have hc1 : c + 1 < wq.heap.size := h3q.2.1.lt
    have hc2 : c + 2 < wq.heap.size := h3q.2.2.lt
    go_upto_block 2 with fail
    go_cut [5, 6, 7, 8, 9] (fun s5 s6 s7 s8 s9 wx => Cut1 k xs ys i j wr s5 s6 s9 wx)
    case rest =>
      obtain ⟨i', j', g, t, rfl, rfl, rfl, d0, d1, hnx, hi', hj', hm, be⟩ := hcut
      have hJc := hJ pre wr wc none hJs (grown_of_below be) (by simp)
      have zc := be.size
      have h3c : Three c (.slice a xs.length ka) (.slice b ys.length kb) (.int .i64 k) wc :=
        ⟨h3r.1.kept (grown_of_below be) (by simp), h3r.2.1.kept (grown_of_below be) (by simp), h3r.2.2.kept (grown_of_below be) (by simp)⟩
      have t1c := t1r.keep (B := h1) (be.mono (by omega)) (Nat.le_refl _)
      have t2c := t2r.keep (B := h2) (be.mono (by omega)) (Nat.le_refl _)
      obtain ⟨tv, tk⟩ := t
      simp only at d0 d1
      by_cases h0 : tk = 0
      · have hmi := Lib.hid (hs.miss hnx h0)
        have hb0 : (tk != 0) = false := by simp [h0]
        clear h0 hnx
        go_wp2_with fail
        go_roundw
        case rel => exact ⟨i', j', pre, rfl, rfl, hi', hj', hmi.out, hJc, by omega, h3c, t1c, t2c⟩
        case measure => simp [intOf]; omega
      · have hlt := hs.lt hnx h0
        have hmi := Lib.hid (hs.hit hnx h0)
        have hb0 : (tk != 0) = true := by simp [h0]
        clear h0 hnx
        obtain ⟨fn, tmps, assign, body, hy, hR⟩ := hY pre (tv, tk) wc hJc hlt
        simp only [encT] at hy
        go_upto_region 13 with fail
        refine (wpIn_wide (n := n)).1 ?_
        gi_wp2
        refine hR.mono ?_
        rintro e W3 (⟨rfl, hJ3, hk3, hk4⟩ | ⟨rfl, hJx3⟩)
        · have z3 := hk3.size
          have h3d := hk4 h3c
          have t1d := t1c.keep hk3 hh1
          have t2d := t2c.keep hk3 hh2
          gi_wp2
          go_wp2_with fail
          go_roundw
          case rel => exact ⟨i', j', _, rfl, rfl, hi', hj', hmi.out, hJ3, by omega, h3d, t1d, t2d⟩
          case measure => simp [intOf]; omega
        · have hpt := hmi.out.part
          gi_wp2
          go_wp2_with fail
          simp only [Exit.noGoto]
          go_end0
          exact ⟨⟨_, rfl⟩, .inr ⟨_, hpt, hJx3⟩⟩
    case first =>
      by_cases hA : i < xs.length
      · by_cases hB : j < ys.length
        · obtain ⟨b1, f1, x1, y1, ea, p1, q1, c1, d1, u1, v1, v2⟩ := t1q.at hA
          obtain ⟨b2, f2, x2, y2, eb, p2, q2, c2, d2, u2, v3, v4⟩ := t2q.at hB
          obtain rfl := ea
          obtain rfl := eb
          have s1 : b1 < wq.heap.size := World.block_lt_of_cell? wq _ c1
          have s2 : b2 < wq.heap.size := World.block_lt_of_cell? wq _ c2
          obtain ⟨-, -, g3, g4⟩ := linOk_at hx u1
          obtain ⟨-, -, g7, g8⟩ := linOk_at hy u2
          rcases Int.lt_trichotomy x1 x2 with hlt | heq | hgt
          · have hd : decide (x1 < x2) = true := decide_eq_true hlt
            have hnx := Lib.hid (next_lt (k := k) u1 u2 hlt)
            clear u1 u2 hlt
            go_wp2_with fail
            go_quiet (fail)
            go_wp2_with fail
            go_meet
            case rel => exact ⟨i + 1, j, wq.heap.size, (x1, y1), by go_num, rfl, rfl, by go_simp, by go_simp, hnx.out, by omega, hj, by omega, by (repeat (with_reducible first | exact bR _ _ | assumption | refine bD ?_ | refine bN ?_ _ | refine bA ?_ _ | refine bS ?_ _))⟩
          · have hd : decide (x1 < x2) = false := decide_eq_false (by omega)
            have hd2 : decide (x2 < x1) = false := decide_eq_false (by omega)
            have hnx := Lib.hid (next_eq (k := k) u1 u2 heq)
            rw [show pl (x1, y1) (tm k (x2, y2)) = (x1, (y1 + y2 * k) % 2147483647) from by simp [pl, tm]] at hnx
            have em := em_bd (y2 * k)
            clear u1 u2 heq
            go_wp2_with fail
            go_quiet (fail)
            go_wp2_with fail
            go_quiet (fail)
            go_wp2_with fail
            generalize hz1 : ((wq.alloc _).drewN _).drewN _ = wz
            have bz : Below wq.heap.size wq wz := by rw [← hz1]; (repeat (with_reducible first | exact bR _ _ | assumption | refine bD ?_ | refine bN ?_ _ | refine bA ?_ _ | refine bS ?_ _))
            have zz : wq.heap.size + 1 ≤ wz.heap.size := by rw [← hz1]; simp
            have ca' := cell_keep bz ca
            have cb' := cell_keep bz cb
            have ck' := cell_keep bz ck
            have c1' := cell_keep bz c1
            have d1' := cell_keep bz d1
            have c2' := cell_keep bz c2
            have d2' := cell_keep bz d2
            have hg0 : wz.cell? ⟨wq.heap.size, 0, none⟩ = some (.int .i64 0) := by rw [← hz1]; simp
            have hg1 : wz.cell? ⟨wq.heap.size, 1, none⟩ = some (.int .i64 0) := by rw [← hz1]; simp
            have fg0 : wz.frozen? ⟨wq.heap.size, 0, none⟩ = false := by rw [← hz1]; simp
            have fg1 : wz.frozen? ⟨wq.heap.size, 1, none⟩ = false := by rw [← hz1]; simp
            clear hz1 ca cb ck c1 d1 c2 d2
            go_region_held3 (fun w' => w'.cell? ⟨c, 0, none⟩ = some (.slice (some ⟨b1, f1, none⟩) xs.length ka) ∧ w'.cell? ⟨b1, f1 + i * 2, none⟩ = some (.int .i64 x1) ∧ w'.cell? ⟨b1, f1 + i * 2 + 1, none⟩ = some (.int .i64 y1) ∧ w'.cell? ⟨c + 1, 0, none⟩ = some (.slice (some ⟨b2, f2, none⟩) ys.length kb) ∧ w'.cell? ⟨b2, f2 + j * 2, none⟩ = some (.int .i64 x2) ∧ w'.cell? ⟨b2, f2 + j * 2 + 1, none⟩ = some (.int .i64 y2) ∧ w'.cell? ⟨c + 2, 0, none⟩ = some (.int .i64 k))
              (first | exact ⟨ca', c1', d1', cb', c2', d2', ck'⟩ | exact ⟨cell_keep r1 ca', cell_keep r1 c1', cell_keep r1 d1', cell_keep r1 cb', cell_keep r1 c2', cell_keep r1 d2', cell_keep r1 ck'⟩ | exact ⟨cell_keep r2 (cell_keep r1 ca'), cell_keep r2 (cell_keep r1 c1'), cell_keep r2 (cell_keep r1 d1'), cell_keep r2 (cell_keep r1 cb'), cell_keep r2 (cell_keep r1 c2'), cell_keep r2 (cell_keep r1 d2'), cell_keep r2 (cell_keep r1 ck')⟩ | exact ⟨cell_set2 (cell_keep r2 (cell_keep r1 ca')) (by omega), cell_set2 (cell_keep r2 (cell_keep r1 c1')) (by omega), cell_set2 (cell_keep r2 (cell_keep r1 d1')) (by omega), cell_set2 (cell_keep r2 (cell_keep r1 cb')) (by omega), cell_set2 (cell_keep r2 (cell_keep r1 c2')) (by omega), cell_set2 (cell_keep r2 (cell_keep r1 d2')) (by omega), cell_set2 (cell_keep r2 (cell_keep r1 ck')) (by omega)⟩)
              (first
                | (go_at_call 75; refine (times_term x2 y2 k _ (by omega) g8 k0 k1).mono ?_; rintro e w1 ⟨rfl, r1⟩; have hg0' := cell_keep r1 hg0; have hg1' := cell_keep r1 hg1; have fg0' := (r1.frozen (p := ⟨wq.heap.size, 0, none⟩) (World.block_lt_of_cell? wz _ hg0)).trans fg0; have fg1' := (r1.frozen (p := ⟨wq.heap.size, 1, none⟩) (World.block_lt_of_cell? wz _ hg1)).trans fg1)
                | (go_at_call 76; refine (plus_term x1 y1 x2 (y2 * k % 2147483647) _ (by omega) g4 em.1 em.2).mono ?_; rintro e w2 ⟨rfl, r2⟩; have hg0b := cell_keep r2 hg0'; have hg1b := cell_keep r2 hg1'; have fg0b := (r2.frozen (p := ⟨wq.heap.size, 0, none⟩) (World.block_lt_of_cell? w1 _ hg0')).trans fg0'; have fg1b := (r2.frozen (p := ⟨wq.heap.size, 1, none⟩) (World.block_lt_of_cell? w1 _ hg1')).trans fg1'))
            go_wp2_with fail
            have bm1 : Below wr.heap.size wr w1 := bq.trans ((show Below wr.heap.size wq wz.drew from (bz.drew).mono zq).trans (r1.mono (show wr.heap.size ≤ wz.drew.heap.size from Nat.le_trans (show wr.heap.size ≤ wz.heap.size by omega) (Nat.le_refl _))))
            have bm : Below wr.heap.size wr w2 := bm1.trans (r2.mono bm1.size)
            go_meet
            case rel => exact ⟨i + 1, j + 1, wq.heap.size, (x1, (y1 + y2 * k) % 2147483647), by go_num, by go_num, rfl, (cell_one2 hg0b hg1b).1, (cell_one2 hg0b hg1b).2, hnx.out, by omega, by omega, by omega, by (repeat (with_reducible first | exact bR _ _ | assumption | refine bD ?_ | refine bN ?_ _ | refine bA ?_ _ | refine bS ?_ _))⟩
          · have hd : decide (x1 < x2) = false := decide_eq_false (by omega)
            have hd2 : decide (x2 < x1) = true := decide_eq_true hgt
            have hnx := Lib.hid (next_gt (k := k) u1 u2 hgt)
            clear u1 u2 hgt
            go_wp2_with fail
            go_quiet (fail)
            go_wp2_with fail
            go_quiet (fail)
            go_wp2_with fail
            generalize hz1 : ((wq.alloc _).drewN _).drewN _ = wz
            have bz : Below wq.heap.size wq wz := by rw [← hz1]; (repeat (with_reducible first | exact bR _ _ | assumption | refine bD ?_ | refine bN ?_ _ | refine bA ?_ _ | refine bS ?_ _))
            have zz : wq.heap.size + 1 ≤ wz.heap.size := by rw [← hz1]; simp
            have ca' := cell_keep bz ca
            have cb' := cell_keep bz cb
            have ck' := cell_keep bz ck
            have c1' := cell_keep bz c1
            have d1' := cell_keep bz d1
            have c2' := cell_keep bz c2
            have d2' := cell_keep bz d2
            have hg0 : wz.cell? ⟨wq.heap.size, 0, none⟩ = some (.int .i64 0) := by rw [← hz1]; simp
            have hg1 : wz.cell? ⟨wq.heap.size, 1, none⟩ = some (.int .i64 0) := by rw [← hz1]; simp
            have fg0 : wz.frozen? ⟨wq.heap.size, 0, none⟩ = false := by rw [← hz1]; simp
            have fg1 : wz.frozen? ⟨wq.heap.size, 1, none⟩ = false := by rw [← hz1]; simp
            clear hz1 ca cb ck c1 d1 c2 d2
            go_region_held3 (fun w' => w'.cell? ⟨c + 1, 0, none⟩ = some (.slice (some ⟨b2, f2, none⟩) ys.length kb) ∧ w'.cell? ⟨b2, f2 + j * 2, none⟩ = some (.int .i64 x2) ∧ w'.cell? ⟨b2, f2 + j * 2 + 1, none⟩ = some (.int .i64 y2) ∧ w'.cell? ⟨c + 2, 0, none⟩ = some (.int .i64 k))
              (first | exact ⟨cb', c2', d2', ck'⟩ | exact ⟨cell_keep r1 cb', cell_keep r1 c2', cell_keep r1 d2', cell_keep r1 ck'⟩ | exact ⟨cell_set2 (cell_keep r1 cb') (by omega), cell_set2 (cell_keep r1 c2') (by omega), cell_set2 (cell_keep r1 d2') (by omega), cell_set2 (cell_keep r1 ck') (by omega)⟩)
              (first
                | (go_at_call 75; refine (times_term x2 y2 k _ (by omega) g8 k0 k1).mono ?_; rintro e w1 ⟨rfl, r1⟩; have hg0' := cell_keep r1 hg0; have hg1' := cell_keep r1 hg1; have fg0' := (r1.frozen (p := ⟨wq.heap.size, 0, none⟩) (World.block_lt_of_cell? wz _ hg0)).trans fg0; have fg1' := (r1.frozen (p := ⟨wq.heap.size, 1, none⟩) (World.block_lt_of_cell? wz _ hg1)).trans fg1))
            go_wp2_with fail
            have bm : Below wr.heap.size wr w1 := bq.trans ((show Below wr.heap.size wq wz.drew from (bz.drew).mono zq).trans (r1.mono (show wr.heap.size ≤ wz.drew.heap.size from Nat.le_trans (show wr.heap.size ≤ wz.heap.size by omega) (Nat.le_refl _))))
            go_meet
            case rel => exact ⟨i, j + 1, wq.heap.size, tm k (x2, y2), rfl, by go_num, rfl, (cell_one2 hg0' hg1').1, (cell_one2 hg0' hg1').2, hnx.out, hi, by omega, by omega, by (repeat (with_reducible first | exact bR _ _ | assumption | refine bD ?_ | refine bN ?_ _ | refine bA ?_ _ | refine bS ?_ _))⟩
        · obtain ⟨b1, f1, x1, y1, ea, p1, q1, c1, d1, u1, v1, v2⟩ := t1q.at hA
          obtain rfl := ea
          have s1 : b1 < wq.heap.size := World.block_lt_of_cell? wq _ c1
          have hnx := Lib.hid (next_a (k := k) (ys := ys) (j := j) u1 (by omega))
          rw [show decide (j < ys.length) = false from decide_eq_false hB, show decide (i < xs.length) = true from decide_eq_true hA]
          clear u1 hB
          go_wp2_with fail
          go_quiet (fail)
          go_wp2_with fail
          go_meet
          case rel => exact ⟨i + 1, j, wq.heap.size, (x1, y1), by go_num, rfl, rfl, by go_simp, by go_simp, hnx.out, by omega, hj, by omega, by (repeat (with_reducible first | exact bR _ _ | assumption | refine bD ?_ | refine bN ?_ _ | refine bA ?_ _ | refine bS ?_ _))⟩
      · by_cases hB : j < ys.length
        · obtain ⟨b2, f2, x2, y2, eb, p2, q2, c2, d2, u2, v3, v4⟩ := t2q.at hB
          obtain rfl := eb
          have s2 : b2 < wq.heap.size := World.block_lt_of_cell? wq _ c2
          obtain ⟨-, -, g7, g8⟩ := linOk_at hy u2
          have hnx := Lib.hid (next_b (k := k) (xs := xs) (i := i) u2 (by omega))
          rw [show decide (j < ys.length) = true from decide_eq_true hB, show decide (i < xs.length) = false from decide_eq_false hA]
          clear u2 hA
          go_wp2_with fail
          go_quiet (fail)
          go_wp2_with fail
          go_quiet (fail)
          go_wp2_with fail
          generalize hz1 : ((wq.alloc _).drewN _).drewN _ = wz
          have bz : Below wq.heap.size wq wz := by rw [← hz1]; (repeat (with_reducible first | exact bR _ _ | assumption | refine bD ?_ | refine bN ?_ _ | refine bA ?_ _ | refine bS ?_ _))
          have zz : wq.heap.size + 1 ≤ wz.heap.size := by rw [← hz1]; simp
          have ca' := cell_keep bz ca
          have cb' := cell_keep bz cb
          have ck' := cell_keep bz ck
          have c2' := cell_keep bz c2
          have d2' := cell_keep bz d2
          have hg0 : wz.cell? ⟨wq.heap.size, 0, none⟩ = some (.int .i64 0) := by rw [← hz1]; simp
          have hg1 : wz.cell? ⟨wq.heap.size, 1, none⟩ = some (.int .i64 0) := by rw [← hz1]; simp
          have fg0 : wz.frozen? ⟨wq.heap.size, 0, none⟩ = false := by rw [← hz1]; simp
          have fg1 : wz.frozen? ⟨wq.heap.size, 1, none⟩ = false := by rw [← hz1]; simp
          clear hz1 ca cb ck c2 d2
          go_region_held3 (fun w' => w'.cell? ⟨c + 1, 0, none⟩ = some (.slice (some ⟨b2, f2, none⟩) ys.length kb) ∧ w'.cell? ⟨b2, f2 + j * 2, none⟩ = some (.int .i64 x2) ∧ w'.cell? ⟨b2, f2 + j * 2 + 1, none⟩ = some (.int .i64 y2) ∧ w'.cell? ⟨c + 2, 0, none⟩ = some (.int .i64 k))
            (first | exact ⟨cb', c2', d2', ck'⟩ | exact ⟨cell_keep r1 cb', cell_keep r1 c2', cell_keep r1 d2', cell_keep r1 ck'⟩ | exact ⟨cell_set2 (cell_keep r1 cb') (by omega), cell_set2 (cell_keep r1 c2') (by omega), cell_set2 (cell_keep r1 d2') (by omega), cell_set2 (cell_keep r1 ck') (by omega)⟩)
            (first
              | (go_at_call 75; refine (times_term x2 y2 k _ (by omega) g8 k0 k1).mono ?_; rintro e w1 ⟨rfl, r1⟩; have hg0' := cell_keep r1 hg0; have hg1' := cell_keep r1 hg1; have fg0' := (r1.frozen (p := ⟨wq.heap.size, 0, none⟩) (World.block_lt_of_cell? wz _ hg0)).trans fg0; have fg1' := (r1.frozen (p := ⟨wq.heap.size, 1, none⟩) (World.block_lt_of_cell? wz _ hg1)).trans fg1))
          go_wp2_with fail
          have bm : Below wr.heap.size wr w1 := bq.trans ((show Below wr.heap.size wq wz.drew from (bz.drew).mono zq).trans (r1.mono (show wr.heap.size ≤ wz.drew.heap.size from Nat.le_trans (show wr.heap.size ≤ wz.heap.size by omega) (Nat.le_refl _))))
          go_meet
          case rel => exact ⟨i, j + 1, wq.heap.size, tm k (x2, y2), rfl, by go_num, rfl, (cell_one2 hg0' hg1').1, (cell_one2 hg0' hg1').2, hnx.out, hi, by omega, by omega, by (repeat (with_reducible first | exact bR _ _ | assumption | refine bD ?_ | refine bN ?_ _ | refine bA ?_ _ | refine bS ?_ _))⟩
        · have hst := Lib.hid (hs.stop (by omega) (by omega))
          rw [show decide (j < ys.length) = false from decide_eq_false hB, show decide (i < xs.length) = false from decide_eq_false hA]
          clear hA hB
          go_wp2_with fail
          go_quiet (fail)
          go_wp2_with fail
          go_quiet (fail)
          go_wp2_with fail
          simp only [Exit.noGoto]
          go_end0
          exact ⟨⟨_, rfl⟩, .inl ⟨pre, hst.out, hJ pre wr _ none hJs (grown_of_below (by (repeat (with_reducible first | exact bR _ _ | assumption | refine bD ?_ | refine bN ?_ _ | refine bA ?_ _ | refine bS ?_ _)))) (by simp)⟩⟩
end Go.Proofs.Ytcenijdaacbgpaa.L

/- combine: the terms of a plus k times b, collected into a row of its own. -/
namespace Go.Proofs.Ytcenijdaacbgpaa.L
open Go.RowKit Go.Shelf Go.Proofs.Ytcenijdaacbgpaa.S
set_option linter.unusedVariables false
set_option linter.unusedSimpArgs false
attribute [local go_sem] Oper.semAt_some

theorem Three.keep {c : Nat} {va vb vk : Value} {W W' : World} {row : Option Nat} (h : Three c va vb vk W) (hg : W.grownBy W' row) (h0 : some c ≠ row) (h1 : some (c + 1) ≠ row) (h2 : some (c + 2) ≠ row) : Three c va vb vk W' :=
  ⟨h.1.kept hg h0, h.2.1.kept hg h1, h.2.2.kept hg h2⟩
theorem Three.putObj {c : Nat} {va vb vk : Value} {W : World} (h : Three c va vb vk W) (l : Nat) (o o' : Obj) (hl : W.heap[l]? = some o) (ho : o.isCells = false) : Three c va vb vk (W.putObj l o') := by
  have key : ∀ {B : Nat} {t : TypeId} {v : Value}, Boxed W B t v → some B ≠ some l := fun hb e => by
    cases e
    rw [show W.heap[_]? = _ from hb] at hl
    cases hl; cases ho
  exact h.keep (grownBy_putObj' W l o') (key h.1) (key h.2.1) (key h.2.2)

theorem iter_stops (n : Nat) (hn : 1 ≤ n) (c n₀ : Nat) (a b : Option Addr) (ka kb : Nat) (o1 o2 : Bool) (l1 h1 l2 h2 : Nat) (xs ys : List T) (k : Int) (k0 : 0 ≤ k) (k1 : k < 2147483647) (hx : linOk xs = true) (hy : linOk ys = true)
    (hh1 : h1 ≤ n₀) (hh2 : h2 ≤ n₀) (w : World) (hw : n₀ ≤ w.heap.size) (hc : c + 2 < w.heap.size)
    (h3 : Three c (.slice a xs.length ka) (.slice b ys.length kb) (.int .i64 k) w) (t1 : Terms o1 l1 h1 w (.slice a xs.length ka) xs) (t2 : Terms o2 l2 h2 w (.slice b ys.length kb) ys) :
    SeqStopsK Fence.wide n Try.prog 74 #[.pointer (some ⟨c, 0, none⟩), .pointer (some ⟨c + 1, 0, none⟩), .pointer (some ⟨c + 2, 0, none⟩)] encT (Kp n₀ c (.slice a xs.length ka) (.slice b ys.length kb) (.int .i64 k)) (fun zs => zs = mrg k xs ys) (fun pre => pre <+: mrg k xs ys) (xs.length + ys.length) w :=
  fun l J Jx W hb hJ hJx hY h0 => iter_in n hn l c n₀ a b ka kb o1 o2 l1 h1 l2 h2 xs ys k k0 k1 hx hy hh1 hh2 J Jx hY W (Nat.le_trans hw hb.size) hJ
    (h3.keep (grown_of_below hb) (by simp) (by simp) (by simp)) (t1.keep hb (Nat.le_trans hh1 hw)) (t2.keep hb (Nat.le_trans hh2 hw)) h0


/-- What the collecting has come to: the row so far in its box; the result's own box untouched. -/
def Coll (w : World) (B R : Nat) (pre : List T) (W : World) : Prop :=
  ((∃ v, Boxed W B 39 v ∧ W.ownsRow w.heap.size 81 2 v pre.length (cells pre) ∧ True) ∧ Boxed W R 39 (.slice none 0 0)) ∧ Below w.heap.size w W
theorem coll_own (w : World) (B R N : Nat) (hN : w.heap.size ≤ N) : OwnFrom N (Coll w B R) :=
  OwnFrom.and (OwnFrom.and (Own.from (holdsRow_own w.heap.size B 39 81 2 (fun pre : List T => pre.length) (fun pre => cells pre) (fun _ _ => True)) _) (Own.from (boxed_own _ _ _) _)) (ownFrom_below (Nat.le_refl _) hN)

/-- A round's variable. -/
def Var (N : Nat) (x : T) (Bx : Nat) (W : World) : Prop := N ≤ Bx ∧ W.heap[Bx]? = some (.cells #[.int .i64 x.1, .int .i64 x.2] 81 (0, 0))
theorem var_own (N : Nat) (x : T) (Bx M : Nat) : OwnFrom M (fun (_ : Unit) W => Var N x Bx W) := fun s X Y row hs hg hrow => by
  obtain ⟨h1, h2⟩ := hs
  have hlt : Bx < X.heap.size := (Array.getElem?_eq_some_iff.1 h2).1
  refine ⟨h1, (hg.block Bx hlt (fun e => ?_)).trans h2⟩
  obtain ⟨_, o, ho, hc⟩ := hrow Bx e.symm
  rw [h2] at ho
  cases ho; cases hc
theorem Var.cells {N : Nat} {x : T} {Bx : Nat} {W : World} (h : Var N x Bx W) : W.cell? ⟨Bx, 0, none⟩ = some (.int .i64 x.1) ∧ W.cell? ⟨Bx, 1, none⟩ = some (.int .i64 x.2) := by
  obtain ⟨_, h2⟩ := h
  exact ⟨by simp [World.cell?, h2], by simp [World.cell?, h2]⟩

theorem box_appended {W w1 : World} {n₀ B B' : Nat} {t e : TypeId} {size k : Nat} {u v x : Value} {xs : List Value} {tmp : Obj} (h : Boxed W B' t u) (hte : t ≠ e) (hrow : W.ownsRow n₀ e size v k xs) (hgrow : (W.alloc tmp).grownBy w1 v.ownBlock) (hne : B' ≠ B) : Boxed (w1.setCell ⟨B, 0, none⟩ x) B' t u :=
  ((h.alloc tmp).kept hgrow (h.not_row hte hrow)).other hne x
theorem cells_two_new (w : World) (x y : Value) (t : TypeId) : ∀ j u, [x, y][j]? = some u → (w.alloc (.cells #[x, y] t)).cell? ((⟨w.heap.size, 0, none⟩ : Addr).add j) = some u := by
  intro j u hj
  rw [Go.WideShapes.add_plain]
  match j, hj with
  | 0, hj => simp at hj; subst hj; rw [World.cell?_alloc_at _ _ _ _ rfl]; rfl
  | 1, hj => simp at hj; subst hj; rw [World.cell?_alloc_at _ _ _ _ rfl]; rfl

set_option maxRecDepth 100000 in
set_option maxHeartbeats 3200000 in
theorem combine_yes (o1 o2 : Bool) (l1 h1 l2 h2 : Nat) (va vb : Value) (xs ys : List T) (k : Int) (w : World) (t1 : Terms o1 l1 h1 w va xs) (hw1 : h1 ≤ w.heap.size) (t2 : Terms o2 l2 h2 w vb ys) (hw2 : h2 ≤ w.heap.size) (k0 : 0 ≤ k) (k1 : k < 2147483647) (hx : linOk xs = true) (hy : linOk ys = true) :
    Calls Try.prog 28 #[.agg #[va], .agg #[vb], .int .i64 k] w fun e w' => ∃ u, e = .returned (.tuple #[.agg #[u], .bool true]) ∧ Below w.heap.size w w' ∧ Terms true w.heap.size w'.heap.size w' u (mrg k xs ys) := by
  obtain ⟨a, ka, rfl, la, ba⟩ := t1.shape
  obtain ⟨b, kb, rfl, lb, bb⟩ := t2.shape
  obtain ⟨i0, hi, hz0, hz1, hz2⟩ := info_parts termInfo
  have nx := linOk_length hx
  have ny := linOk_length hy
  refine callsIn_wide.1 (?_ : CallsIn Fence.wide 5 _ _ _ _ _)
  refine callsIn_of_wp_marks Try.func28 rfl trivial ?_ rfl
  simp only [Try.ntmps28, List.size_toArray, List.length_cons, List.length_nil, Nat.reduceAdd, Nat.reduceSub, Array.replicate_succ, Array.replicate_zero, List.push_toArray, List.append_toArray, List.nil_append, List.cons_append]
  refine wpIn_wide.2 ?_
  go_wp2_with fail
  refine name_call fun w1 hw1' => ?_
  have b1 : Below w.heap.size w w1 := by rw [hw1']; (repeat (with_reducible first | exact bR _ _ | assumption | refine bD ?_ | refine bN ?_ _ | refine bA ?_ _ | refine bS ?_ _))
  have z1 : w.heap.size + 3 ≤ w1.heap.size := by rw [hw1']; simp
  have cA1 : w1.cell? ⟨w.heap.size, 0, none⟩ = some (.slice a xs.length ka) := by rw [hw1']; go_simp
  have cB1 : w1.cell? ⟨w.heap.size + 1, 0, none⟩ = some (.slice b ys.length kb) := by rw [hw1']; go_simp
  have cR1 : Boxed w1 (w.heap.size + 1 + 1) 39 (.slice none 0 0) := by
    rw [hw1']
    have := Boxed.new ((w.alloc (.cells #[.slice a xs.length ka] 39)).alloc (.cells #[.slice b ys.length kb] 39)) 39 (.slice none 0 0)
    simpa using this
  clear hw1'
  refine (linOk_impl_yes o1 l1 h1 _ xs w1 (t1.keep b1 hw1) (by omega) hx).mono ?_; rintro e w2 ⟨rfl, f2⟩
  have b2 := b1.trans (f2.mono (by omega))
  have z2 := f2.size
  have cA2 := cell_keep f2 cA1
  have cB2 := cell_keep f2 cB1
  have cR2 := cR1.kept (grown_of_below f2) (fun h => by cases h)
  clear cA1 cB1 cR1
  go_wp2_with fail
  refine (linOk_impl_yes o2 l2 h2 _ ys w2 (t2.keep b2 hw2) (by omega) hy).mono ?_; rintro e w3 ⟨rfl, f3⟩
  have b3 := b2.trans (f3.mono (by omega))
  have z3 := f3.size
  have cA3 := cell_keep f3 cA2
  have cB3 := cell_keep f3 cB2
  have cR3 := cR2.kept (grown_of_below f3) (fun h => by cases h)
  have lA3 : w.heap.size < w3.heap.size := by omega
  have lB3 : w.heap.size + 1 < w3.heap.size := by omega
  clear cA2 cB2 cR2
  go_wp2_with fail
  refine (combined_any a b xs.length ka ys.length kb k _).mono ?_; rintro e w4 ⟨rfl, hw4⟩
  simp only [World.size_alloc] at hw4 ⊢
  have z4 : w4.heap.size = w3.heap.size + 4 := by rw [hw4]; simp
  have b4 : Below w.heap.size w w4 := by rw [hw4]; (repeat (with_reducible first | exact bR _ _ | assumption | refine bD ?_ | refine bN ?_ _ | refine bA ?_ _ | refine bS ?_ _))
  have cR4 : Boxed w4 (w.heap.size + 1 + 1) 39 (.slice none 0 0) := by rw [hw4]; exact (((cR3.alloc _).alloc _).alloc _).alloc _
  have cS4 : Boxed w4 w3.heap.size 39 (.slice none 0 0) := by rw [hw4]; exact (((Boxed.new w3 _ _).alloc _).alloc _).alloc _
  have h34 : Three (w3.heap.size + 1) (.slice a xs.length ka) (.slice b ys.length kb) (.int .i64 k) w4 := by
    rw [hw4]
    have e1 := Boxed.new (w3.alloc (.cells #[.slice none 0 0] 39)) 39 (.slice a xs.length ka)
    have e2 := Boxed.new ((w3.alloc (.cells #[.slice none 0 0] 39)).alloc (.cells #[.slice a xs.length ka] 39)) 39 (.slice b ys.length kb)
    have e3 := Boxed.new (((w3.alloc (.cells #[.slice none 0 0] 39)).alloc (.cells #[.slice a xs.length ka] 39)).alloc (.cells #[.slice b ys.length kb] 39)) 64 (.int .i64 k)
    simp only [World.size_alloc] at e1 e2 e3
    exact ⟨(e1.alloc _).alloc _, e2.alloc _, e3⟩
  have t14 := t1.keep b4 hw1
  have t24 := t2.keep b4 hw2
  clear hw4 cA3 cB3 cR3 f2 f3
  go_wp2_with fail
  refine (wpIn_wide (n := 5)).1 ?_
  refine wpIn_rangeFunc_ownH (P := Try.prog) rfl (by omega) (gf := 74) (lb := #[.pointer (some ⟨w3.heap.size + 1, 0, none⟩), .pointer (some ⟨w3.heap.size + 1 + 1, 0, none⟩), .pointer (some ⟨w3.heap.size + 1 + 2, 0, none⟩)]) rfl trivial (enters_of Try.func74 (by kernel_rfl) rfl)
    (iter_stops 4 (by omega) (w3.heap.size + 1) w.heap.size a b ka kb o1 o2 l1 h1 l2 h2 xs ys k k0 k1 hx hy hw1 hw2 w4 (by omega) (by omega) h34 t14 t24)
    (fun h g => ⟨h.1.trans g.1, fun q => g.2 (h.2 q)⟩)
    (fun W l o o' hl ho hc hw => ⟨belowK_b (w := w4) (by omega) W l o o' hl ho hc hw, fun q => q.putObj l o o' ho hc⟩)
    (Below.refl _ _) (fun _ => rfl)
    (Coll w w3.heap.size (w.heap.size + 1 + 1)) (fun _ _ _ => False) (coll_own _ _ _ _ (by omega)) (fun _ _ _ _ _ hs _ _ => hs)
    ⟨⟨⟨_, cS4, World.ownsRow_nil _ _ _ _, trivial⟩, cR4⟩, b4⟩
    (fun x a' W => ∃ Bx, Var 0 x Bx W ∧ a' = { tmps := #[.agg #[.slice a xs.length ka], .agg #[.slice b ys.length kb], .int .i64 k, .pointer (some ⟨w.heap.size, 0, none⟩), .pointer (some ⟨w.heap.size + 1, 0, none⟩), undef, .pointer (some ⟨w.heap.size + 1 + 1, 0, none⟩), .bool false, .pointer (some ⟨w3.heap.size, 0, none⟩), .pointer (some ⟨Bx, 0, none⟩), .agg #[.slice a xs.length ka], .bool true, .bool false, .bool false, .agg #[.slice b ys.length kb], .bool true, .bool false, .bool false, undef, .agg #[.slice a xs.length ka], .agg #[.slice b ys.length kb], .int .i64 k, .func (.func 74) #[] #[.pointer (some ⟨w3.heap.size + 1, 0, none⟩), .pointer (some ⟨w3.heap.size + 1 + 1, 0, none⟩), .pointer (some ⟨w3.heap.size + 1 + 2, 0, none⟩)], .agg #[.int .i64 x.1, .int .i64 x.2], undef, undef, undef, undef, undef, undef, undef], defers := [] })
    (fun x a' _ X Y row hs hg hr => by obtain ⟨Bx, h1, h2⟩ := hs; exact ⟨Bx, var_own 0 x Bx _ () X Y row h1 hg hr, h2⟩)
    ?assign ?body ?done ?stop
  case assign =>
    rintro l pre x W K ⟨⟨⟨v, hv, hrow, -⟩, hR⟩, hB⟩ hK
    simp only [encT]
    gi_wp2
    exact hK _ _ ((KeepsOthers.alloc _ _).from _) ⟨(Below.refl _ W).alloc hB.size _, fun q => ⟨q.1.alloc _, q.2.1.alloc _, q.2.2.alloc _⟩⟩ ⟨⟨⟨v, hv.alloc _, hrow.alloc _, trivial⟩, hR.alloc _⟩, hB.alloc hB.size _⟩ ⟨W.heap.size, ⟨Nat.zero_le _, World.alloc_heap_new W _⟩, rfl⟩
  case body =>
    rintro l pre x a' W hl ⟨r, hr⟩ ⟨⟨⟨v, hv, hrow, -⟩, hR⟩, hB⟩ ⟨Bx, hBx, rfl⟩ hlt
    obtain ⟨c0, c1⟩ := hBx.cells
    have hc := hv.cell
    have hsz := hB.size
    have hlx : Bx < W.heap.size := World.block_lt_of_cell? W _ c0
    gi_wp2_with (gi_at_builtin; refine wpListIn_append_own _ rfl _ _ 37 rfl w.heap.size 81 i0 (.agg #[.int .i64 0, .int .i64 0]) 2 16 Try.underlying37 hi hz0 hz1 hz2 rfl (by decide) _ _ _ rfl (hrow.alloc _) ⟨W.heap.size, 0, none⟩ 1 1 [.int .i64 x.1, .int .i64 x.2] rfl rfl (cells_two_new _ _ _ _) (by simp [Value.oneCell']) (by unfold maxLen; omega) (by omega) (by simp; omega) ?_; intro v' w5 hown' hgrow _; obtain ⟨g', cap', rfl⟩ := ownsRow_succ hown'; obtain ⟨hv1, hv2, hr2, hk2, hb2⟩ := hv.appended (by decide) hrow hB.size (by omega) hown' hgrow; have hc1 := hv1.cell; have hf1 := hv1.frozen)
    refine ⟨hk2.from _, ⟨hb2, fun q => ⟨box_appended q.1 (by decide) hrow hgrow (by omega), box_appended q.2.1 (by decide) hrow hgrow (by omega), box_appended q.2.2 (by decide) hrow hgrow (by omega)⟩⟩, ⟨⟨⟨_, hv2, ?_, trivial⟩, box_appended hR (by decide) hrow hgrow (by omega)⟩, hB.trans hb2⟩⟩
    rw [cells_append]
    simpa [cells] using hr2
  case done =>
    rintro D zs W hD rfl ⟨⟨⟨v, hv, hrow, -⟩, hR⟩, hB⟩ hK
    have ht := Terms.own hrow (linOk_fits (linOk_mrg hx hy))
    obtain ⟨g, cg, rfl, lg, bg⟩ := ht.shape
    have hc := hv.cell
    have hcR := hR.cell
    have hfR := hR.frozen
    have hR2 := hR.set (.slice g (mrg k xs ys).length cg)
    have hK2 := (KeepsOthers.setCell W ⟨w.heap.size + 1 + 1, 0, none⟩ (.slice g (mrg k xs ys).length cg)).same D _ hK rfl
    have r2 := ownsRow_putObj (hrow.kept (grownBy_setCell' W (w.heap.size + 1 + 1) (.slice g (mrg k xs ys).length cg)) (.inr (hR.not_row (by decide) hrow).symm)) (.deferred none) hK2 rfl
    have hR3 := hR2.kept (grownBy_putObj' _ D (.deferred none)) (fun e => by cases e; rw [show (World.heap _)[_]? = _ from hR2] at hK2; cases hK2)
    have b5 := (hB.setCell (p := ⟨w.heap.size + 1 + 1, 0, none⟩) (by simp; omega) (.slice g (mrg k xs ys).length cg)).trans (belowK_b (w := w) (Nat.le_refl _) _ D _ (.deferred none) (by omega) hK2 rfl rfl)
    have t5 := Terms.own r2 (linOk_fits (linOk_mrg hx hy))
    have cR3 := hR3.cell
    clear r2 hR2 hR3
    go_wp2_with fail
    refine ⟨by simp, .inl ⟨_, _, rfl, run_takeDeferred hK2, ?_⟩⟩
    exact ⟨.tuple #[.agg #[.slice g (mrg k xs ys).length cg], .bool true], by simp [results, Try.results28, go_sem, cR3], _, rfl, b5, t5⟩
  case stop =>
    rintro D c pre W _ _ h _
    exact h.elim
end Go.Proofs.Ytcenijdaacbgpaa.L

/- Sums, differences and multiples of linear combinations: the program's functions. -/
namespace Go.Proofs.Ytcenijdaacbgpaa.L
open Go.RowKit Go.Shelf Go.Proofs.Ytcenijdaacbgpaa.S
set_option linter.unusedVariables false
set_option linter.unusedSimpArgs false

set_option maxRecDepth 100000 in
set_option maxHeartbeats 1600000 in
theorem combine_no (o1 o2 : Bool) (l1 h1 l2 h2 : Nat) (va vb : Value) (xs ys : List T) (k : Int) (w : World) (t1 : Terms o1 l1 h1 w va xs) (hw1 : h1 ≤ w.heap.size) (t2 : Terms o2 l2 h2 w vb ys) (hw2 : h2 ≤ w.heap.size) (hxy : linOk xs = false ∨ (linOk xs = true ∧ linOk ys = false)) :
    Calls Try.prog 28 #[.agg #[va], .agg #[vb], .int .i64 k] w fun e w' => ∃ u, e = .returned (.tuple #[.agg #[u], .bool false]) ∧ Below w.heap.size w w' ∧ Terms true w.heap.size w'.heap.size w' u [] := by
  obtain ⟨a, ka, rfl, la, ba⟩ := t1.shape
  obtain ⟨b, kb, rfl, lb, bb⟩ := t2.shape
  refine callsIn_wide.1 (?_ : CallsIn Fence.wide 5 _ _ _ _ _)
  refine callsIn_of_wp_marks Try.func28 rfl trivial ?_ rfl
  simp only [Try.ntmps28, List.size_toArray, List.length_cons, List.length_nil, Nat.reduceAdd, Nat.reduceSub, Array.replicate_succ, Array.replicate_zero, List.push_toArray, List.append_toArray, List.nil_append, List.cons_append]
  refine wpIn_wide.2 ?_
  go_wp2_with fail
  refine name_call fun w1 hw1' => ?_
  have b1 : Below w.heap.size w w1 := by rw [hw1']; (repeat (with_reducible first | exact bR _ _ | assumption | refine bD ?_ | refine bN ?_ _ | refine bA ?_ _ | refine bS ?_ _))
  have z1 : w.heap.size + 3 ≤ w1.heap.size := by rw [hw1']; simp
  have cB1 : w1.cell? ⟨w.heap.size + 1, 0, none⟩ = some (.slice b ys.length kb) := by rw [hw1']; go_simp
  have cR1 : w1.cell? ⟨w.heap.size + 1 + 1, 0, none⟩ = some (.slice none 0 0) := by rw [hw1']; go_simp
  have fR1 : w1.frozen? ⟨w.heap.size + 1 + 1, 0, none⟩ = false := by rw [hw1']; go_simp
  clear hw1'
  rcases hxy with hx | ⟨hx, hy⟩
  · refine (linOk_impl_no o1 l1 h1 _ xs w1 (t1.keep b1 hw1) (by omega) hx).mono ?_; rintro e w2 ⟨rfl, f2⟩
    have b2 := b1.trans (f2.mono (by omega))
    have cR2 := cell_keep f2 cR1
    have fR2 := (f2.frozen (p := ⟨w.heap.size + 1 + 1, 0, none⟩) (by simp; omega)).trans fR1
    clear cB1 cR1 fR1
    go_wp2_with fail
    exact ⟨.tuple #[.agg #[.slice none 0 0], .bool false], by simp [results, Try.results28, go_sem, cR2], _, rfl, by (repeat (with_reducible first | exact bR _ _ | assumption | refine bD ?_ | refine bN ?_ _ | refine bA ?_ _ | refine bS ?_ _)), Terms.nil _ _ _ _⟩
  · refine (linOk_impl_yes o1 l1 h1 _ xs w1 (t1.keep b1 hw1) (by omega) hx).mono ?_; rintro e w2 ⟨rfl, f2⟩
    have b2 := b1.trans (f2.mono (by omega))
    have z2 := f2.size
    have cR2 := cell_keep f2 cR1
    have fR2 := (f2.frozen (p := ⟨w.heap.size + 1 + 1, 0, none⟩) (by simp; omega)).trans fR1
    have cB2 := cell_keep f2 cB1
    clear cB1 cR1 fR1
    go_wp2_with fail
    refine (linOk_impl_no o2 l2 h2 _ ys w2 (t2.keep b2 hw2) (by omega) hy).mono ?_; rintro e w3 ⟨rfl, f3⟩
    have b3 := b2.trans (f3.mono (by omega))
    have cR3 := cell_keep f3 cR2
    have fR3 := (f3.frozen (p := ⟨w.heap.size + 1 + 1, 0, none⟩) (by simp; omega)).trans fR2
    clear cB2 cR2 fR2
    go_wp2_with fail
    exact ⟨.tuple #[.agg #[.slice none 0 0], .bool false], by simp [results, Try.results28, go_sem, cR3], _, rfl, by (repeat (with_reducible first | exact bR _ _ | assumption | refine bD ?_ | refine bN ?_ _ | refine bA ?_ _ | refine bS ?_ _)), Terms.nil _ _ _ _⟩

theorem combine_impl (o1 l1 h1 va xs) (o2 l2 h2 vb ys) (k : Int) (w : World) (t1 : Terms o1 l1 h1 w va xs) (hw1 : h1 ≤ w.heap.size) (t2 : Terms o2 l2 h2 w vb ys) (hw2 : h2 ≤ w.heap.size) (k0 : 0 ≤ k) (k1 : k < 2147483647) :
    Calls Try.prog 28 #[.agg #[va], .agg #[vb], .int .i64 k] w fun e w' => ∃ u, e = .returned (.tuple #[.agg #[u], .bool (lok xs ys)]) ∧ Below w.heap.size w w' ∧ Terms true w.heap.size w'.heap.size w' u (lcomb k xs ys) := by
  rcases lok_cases xs ys with ⟨hx, hy⟩ | h
  · rw [(lcomb_yes hx hy).1, (lcomb_yes (k := k) hx hy).2]
    exact combine_yes o1 o2 l1 h1 l2 h2 va vb xs ys k w t1 hw1 t2 hw2 k0 k1 hx hy
  · rw [(lcomb_no h).1, (lcomb_no (k := k) h).2]
    exact combine_no o1 o2 l1 h1 l2 h2 va vb xs ys k w t1 hw1 t2 hw2 h

theorem elemOf_neg1 (w : World) : Calls Try.prog 29 #[.int .i64 (-1)] w fun e w' => e = .returned (.int .i64 2147483646) ∧ w = w' :=
  (elemOf_any (-1) w (by omega) (by omega)).mono fun e w' ⟨he, hw⟩ => ⟨he, hw⟩

set_option maxRecDepth 100000 in
set_option maxHeartbeats 1600000 in
theorem linAdd_impl (o1 l1 h1 va xs) (o2 l2 h2 vb ys) (w : World) (t1 : Terms o1 l1 h1 w va xs) (hw1 : h1 ≤ w.heap.size) (t2 : Terms o2 l2 h2 w vb ys) (hw2 : h2 ≤ w.heap.size) :
    Calls Try.prog 79 #[.agg #[va], .agg #[vb]] w fun e w' => ∃ u, e = .returned (.tuple #[.agg #[u], .bool (lok xs ys)]) ∧ Below w.heap.size w w' ∧ Terms true w.heap.size w'.heap.size w' u (lcomb 1 xs ys) := by
  obtain ⟨a, ka, rfl, la, ba⟩ := t1.shape
  obtain ⟨b, kb, rfl, lb, bb⟩ := t2.shape
  go_enter Try.func79, Try.ntmps79
  go_wp2_with fail
  refine name_wp fun w1 hw1' => ?_
  have b1 : Below w.heap.size w w1.drew := by rw [hw1']; (repeat (with_reducible first | exact bR _ _ | assumption | refine bD ?_ | refine bN ?_ _ | refine bA ?_ _ | refine bS ?_ _))
  have z1 : w.heap.size + 3 ≤ w1.drew.heap.size := by rw [hw1']; simp
  have z1d : w.heap.size + 3 ≤ w1.heap.size := z1
  have cA1 : w1.drew.cell? ⟨w.heap.size, 0, none⟩ = some (.slice a xs.length ka) := by rw [hw1']; go_simp
  have cB1 : w1.drew.cell? ⟨w.heap.size + 1, 0, none⟩ = some (.slice b ys.length kb) := by rw [hw1']; go_simp
  have cR1 : w1.drew.cell? ⟨w.heap.size + 1 + 1, 0, none⟩ = some (.slice none 0 0) := by rw [hw1']; go_simp
  have fR1 : w1.drew.frozen? ⟨w.heap.size + 1 + 1, 0, none⟩ = false := by rw [hw1']; go_simp
  have t1' := t1.keep b1 hw1
  have t2' := t2.keep b1 hw2
  clear hw1'
  go_region_held3 (fun w' => w'.cell? ⟨w.heap.size, 0, none⟩ = some (.slice a xs.length ka) ∧ w'.cell? ⟨w.heap.size + 1, 0, none⟩ = some (.slice b ys.length kb))
    (first | exact ⟨cA1, cB1⟩ | exact ⟨cell_keep f2 cA1, cell_keep f2 cB1⟩ | exact ⟨cell_set1 (cell_keep f2 cA1) (by omega), cell_set1 (cell_keep f2 cB1) (by omega)⟩)
    (first
      | (go_at_call 29; refine (elemOf_any (1) _ (by omega) (by omega)).mono ?_; rintro e w' ⟨rfl, rfl⟩)
      | (go_at_call 28; refine (combine_impl _ _ _ _ xs _ _ _ _ ys 1 _ t1' (by omega) t2' (by omega) (by omega) (by omega)).mono ?_; rintro e w2 ⟨u, rfl, f2, tq⟩; obtain ⟨g, kg, rfl, lg, bg⟩ := tq.shape; have b2 := b1.trans (f2.mono (by omega)); have cR2 := cell_keep f2 cR1; have fR2 := (f2.frozen (p := ⟨w.heap.size + 1 + 1, 0, none⟩) (by simp; omega)).trans fR1))
  go_wp2_with fail
  exact bodyPost_ret (v := .tuple #[.agg #[.slice g (lcomb 1 xs ys).length kg], .bool (lok xs ys)]) (by simp [results, Try.results79, go_sem, cR2]) rfl ⟨_, rfl, by (repeat (with_reducible first | exact bR _ _ | assumption | refine bD ?_ | refine bN ?_ _ | refine bA ?_ _ | refine bS ?_ _)), tq.stored (by omega) (by omega)⟩

set_option maxRecDepth 100000 in
set_option maxHeartbeats 1600000 in
theorem linSub_impl (o1 l1 h1 va xs) (o2 l2 h2 vb ys) (w : World) (t1 : Terms o1 l1 h1 w va xs) (hw1 : h1 ≤ w.heap.size) (t2 : Terms o2 l2 h2 w vb ys) (hw2 : h2 ≤ w.heap.size) :
    Calls Try.prog 78 #[.agg #[va], .agg #[vb]] w fun e w' => ∃ u, e = .returned (.tuple #[.agg #[u], .bool (lok xs ys)]) ∧ Below w.heap.size w w' ∧ Terms true w.heap.size w'.heap.size w' u (lcomb 2147483646 xs ys) := by
  obtain ⟨a, ka, rfl, la, ba⟩ := t1.shape
  obtain ⟨b, kb, rfl, lb, bb⟩ := t2.shape
  go_enter Try.func78, Try.ntmps78
  go_wp2_with fail
  refine name_wp fun w1 hw1' => ?_
  have b1 : Below w.heap.size w w1.drew := by rw [hw1']; (repeat (with_reducible first | exact bR _ _ | assumption | refine bD ?_ | refine bN ?_ _ | refine bA ?_ _ | refine bS ?_ _))
  have z1 : w.heap.size + 3 ≤ w1.drew.heap.size := by rw [hw1']; simp
  have z1d : w.heap.size + 3 ≤ w1.heap.size := z1
  have cA1 : w1.drew.cell? ⟨w.heap.size, 0, none⟩ = some (.slice a xs.length ka) := by rw [hw1']; go_simp
  have cB1 : w1.drew.cell? ⟨w.heap.size + 1, 0, none⟩ = some (.slice b ys.length kb) := by rw [hw1']; go_simp
  have cR1 : w1.drew.cell? ⟨w.heap.size + 1 + 1, 0, none⟩ = some (.slice none 0 0) := by rw [hw1']; go_simp
  have fR1 : w1.drew.frozen? ⟨w.heap.size + 1 + 1, 0, none⟩ = false := by rw [hw1']; go_simp
  have t1' := t1.keep b1 hw1
  have t2' := t2.keep b1 hw2
  clear hw1'
  go_region_held3 (fun w' => w'.cell? ⟨w.heap.size, 0, none⟩ = some (.slice a xs.length ka) ∧ w'.cell? ⟨w.heap.size + 1, 0, none⟩ = some (.slice b ys.length kb))
    (first | exact ⟨cA1, cB1⟩ | exact ⟨cell_keep f2 cA1, cell_keep f2 cB1⟩ | exact ⟨cell_set1 (cell_keep f2 cA1) (by omega), cell_set1 (cell_keep f2 cB1) (by omega)⟩)
    (first
      | (go_at_call 29; refine (elemOf_neg1 _).mono ?_; rintro e w' ⟨rfl, rfl⟩)
      | (go_at_call 28; refine (combine_impl _ _ _ _ xs _ _ _ _ ys 2147483646 _ t1' (by omega) t2' (by omega) (by omega) (by omega)).mono ?_; rintro e w2 ⟨u, rfl, f2, tq⟩; obtain ⟨g, kg, rfl, lg, bg⟩ := tq.shape; have b2 := b1.trans (f2.mono (by omega)); have cR2 := cell_keep f2 cR1; have fR2 := (f2.frozen (p := ⟨w.heap.size + 1 + 1, 0, none⟩) (by simp; omega)).trans fR1))
  go_wp2_with fail
  exact bodyPost_ret (v := .tuple #[.agg #[.slice g (lcomb 2147483646 xs ys).length kg], .bool (lok xs ys)]) (by simp [results, Try.results78, go_sem, cR2]) rfl ⟨_, rfl, by (repeat (with_reducible first | exact bR _ _ | assumption | refine bD ?_ | refine bN ?_ _ | refine bA ?_ _ | refine bS ?_ _)), tq.stored (by omega) (by omega)⟩

end Go.Proofs.Ytcenijdaacbgpaa.L
