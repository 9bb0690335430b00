/- Sums of lists and dot products: the model's functions; the exact laws. -/
import Derived.Test.YtohngajjmlldjabSum
import Derived.Test.YtohngajjmlldjabToInts
import Derived.Test.YtohngajjmlldjabInvLaws
namespace Go.Proofs.Ytohngajjmlldjab.S
open Go.RowKit
set_option linter.unusedVariables false

theorem fok_yes_spec (n : Int) (w : World) (h0 : 0 ≤ n) (h1 : n < 2147483647) :
    Calls Try.prog 14 #[.int .i64 n] w fun e w' => e = .returned (.bool true) ∧ w = w' :=
  (fok_spec n w).mono fun e w' ⟨he, hw⟩ => ⟨by rw [he]; exact ret_bool (by simp; omega), hw⟩
theorem fok_no_spec (n : Int) (w : World) (h : ¬ fld n) :
    Calls Try.prog 14 #[.int .i64 n] w fun e w' => e = .returned (.bool false) ∧ w = w' :=
  (fok_spec n w).mono fun e w' ⟨he, hw⟩ => ⟨by rw [he]; exact ret_bool (by unfold fld at h; simp; omega), hw⟩

set_option maxRecDepth 100000 in
set_option maxHeartbeats 1600000 in
theorem fsum_spec (lim : Nat) (v : Value) (xs : List Int) (w : World) (h1 : Ints lim w v xs) :
    Calls Try.prog 8 #[v] w fun e w' => e = .returned (.int .i64 (fsum xs)) ∧ w = w' := by
  obtain ⟨a, ca, rfl, la, ba⟩ := h1.shape
  go_enter Try.func8, Try.ntmps8
  go_wp2_with fail
  go_loop [3, 4] (fun z i => ∃ (k : Nat) (s : Int), k ≤ xs.length ∧ i = .int .i64 k ∧ z = .int .i64 s ∧ 0 ≤ s ∧ s < 2147483647 ∧ SumInv xs k s) (fun _ i => xs.length - (intOf i).toNat)
  case atStart => exact ⟨0, 0, Nat.zero_le _, rfl, rfl, by omega, by omega, SumInv.start xs⟩
  case round =>
    obtain ⟨k, s, hk, rfl, rfl, s0, s1, hi⟩ := hrel
    by_cases hlt : k < xs.length
    · obtain ⟨b, off, x, rfl, l1, c1, e1, _⟩ := h1.at hlt
      by_cases hf : fld x
      · have st := hi.step e1 hf
        obtain ⟨f0, f1⟩ := hf
        have em := em_bd (s + x)
        clear e1
        go_wp2_with fail
        refine (fok_yes_spec x _ f0 f1).mono ?_; rintro e w' ⟨rfl, rfl⟩
        go_wp2_with fail
        refine (fadd_spec s x _ (by omega) (by omega) (by omega) (by omega)).mono ?_; rintro e w' ⟨rfl, rfl⟩
        go_wp2_with fail
        go_round
        case rel => exact ⟨k + 1, _, by omega, by go_num, rfl, em.1, em.2, st⟩
        case measure => simp [intOf]; omega
      · have HB := Lib.hid (fsum_bad e1 hf)
        clear e1
        go_wp2_with fail
        refine (fok_no_spec x _ hf).mono ?_; rintro e w' ⟨rfl, rfl⟩
        go_wp2_with fail
        go_ret
        exact ⟨ret_int HB.out.symm, rfl⟩
    · have HE := Lib.hid (hi.stop hlt)
      go_wp2_with fail
      go_ret
      exact ⟨ret_int HE.out.symm, rfl⟩

set_option maxRecDepth 100000 in
set_option maxHeartbeats 1600000 in
theorem fdot_spec (lim : Nat) (v u : Value) (xs ys : List Int) (w : World) (h1 : Ints lim w v xs) (h2 : Ints lim w u ys) :
    Calls Try.prog 12 #[v, u] w fun e w' => e = .returned (.int .i64 (fdot xs ys)) ∧ Below lim w w' := by
  obtain ⟨a, ca, rfl, la, ba⟩ := h1.shape
  obtain ⟨b, cb, rfl, lb, bb⟩ := h2.shape
  by_cases hl : xs.length = ys.length
  · have hne : ((xs.length : Int) != (ys.length : Int)) = false := by simp [hl]
    have HL := Lib.hid hl
    clear hl
    go_enter Try.func12, Try.ntmps12
    go_wp2_with fail
    go_loopw [5, 6] (fun z i wr => ∃ (k n : Nat) (s : Int), k ≤ xs.length ∧ i = .int .i64 k ∧ z = .int .i64 s ∧ wr = w.drewN n ∧ 0 ≤ s ∧ s < 2147483647 ∧ DotInv xs ys k s) (fun _ i _ => xs.length - (intOf i).toNat)
    case atStart => exact ⟨0, 0, 0, Nat.zero_le _, rfl, rfl, rfl, by omega, by omega, DotInv.start xs ys⟩
    case round =>
      obtain ⟨k, n, s, hk, rfl, rfl, hwr, s0, s1, hi⟩ := hrel
      have be : Below lim w wr := by rw [hwr]; exact below_drewN _ _ _
      by_cases hlt : k < xs.length
      · have hlt2 : k < ys.length := by rw [← HL.out]; exact hlt
        obtain ⟨b1, o1, x, rfl, l1, c1, e1, _⟩ := (h1.keep be (Nat.le_refl _)).at hlt
        obtain ⟨b2, o2, y, rfl, l2, c2, e2, _⟩ := (h2.keep be (Nat.le_refl _)).at hlt2
        have HW := Lib.hid hwr
        clear hwr
        by_cases hf : fld x
        · by_cases hg : fld y
          · have st := hi.step e1 e2 hf hg
            obtain ⟨f0, f1⟩ := hf
            obtain ⟨g0, g1⟩ := hg
            have em := em_bd (x * y)
            have em2 := em_bd (s + x * y % 2147483647)
            clear e1 e2
            go_wp2_with fail
            refine (fok_yes_spec x _ f0 f1).mono ?_; rintro e w' ⟨rfl, rfl⟩
            go_wp2_with fail
            refine (fok_yes_spec y _ g0 g1).mono ?_; rintro e w' ⟨rfl, rfl⟩
            go_wp2_with fail
            go_quiet (first | (go_at_call 15; exact quiet_same (fmul_spec x y _ (by omega) (by omega) (by omega) (by omega))) | (go_at_call 20; exact quiet_same (fadd_spec s (x * y % 2147483647) _ (by omega) (by omega) (by omega) (by omega))))
            go_wp2_with fail
            go_roundw
            case rel => exact ⟨k + 1, _, _, by omega, by go_num, rfl, by rw [HW.out, World.drewN_drewN], em2.1, em2.2, st⟩
            case measure => simp [intOf]; omega
          · have HB := Lib.hid (fdot_bad2 (xs := xs) e2 hg)
            obtain ⟨f0, f1⟩ := hf
            clear e1 e2
            go_wp2_with fail
            refine (fok_yes_spec x _ f0 f1).mono ?_; rintro e w' ⟨rfl, rfl⟩
            go_wp2_with fail
            refine (fok_no_spec y _ hg).mono ?_; rintro e w' ⟨rfl, rfl⟩
            go_wp2_with fail
            go_ret
            exact ⟨ret_int HB.out.symm, be⟩
        · have HB := Lib.hid (fdot_bad1 (ys := ys) e1 hf)
          clear e1 e2
          go_wp2_with fail
          refine (fok_no_spec x _ hf).mono ?_; rintro e w' ⟨rfl, rfl⟩
          go_wp2_with fail
          go_ret
          exact ⟨ret_int HB.out.symm, be⟩
      · have HE := Lib.hid (hi.stop HL.out hlt)
        clear hwr
        go_wp2_with fail
        go_ret
        exact ⟨ret_int HE.out.symm, be⟩
  · have hne : ((xs.length : Int) != (ys.length : Int)) = true := by simp; omega
    have HF := Lib.hid (fdot_len hl)
    clear hl
    go_enter Try.func12, Try.ntmps12
    go_wp2_with fail
    go_ret
    exact ⟨ret_int HF.out.symm, Below.refl _ _⟩

set_option maxHeartbeats 800000 in
theorem fdiv_spec (a b : Int) (w : World) (a0 : -9223372036854775808 ≤ a) (a1 : a ≤ 9223372036854775807) (b0 : -9223372036854775808 ≤ b) (b1 : b ≤ 9223372036854775807) :
    Calls Try.prog 6 #[.int .i64 a, .int .i64 b] w fun e w' => e = .returned (.int .i64 (fdiv a b)) ∧ w = w' := by
  have p0 := M.pw_lo b 2147483645
  have p1 := M.pw_hi b 2147483645
  by_cases ha : fld a
  · by_cases hb : fld b
    · have H := Lib.hid (show fdiv a b = a * M.pw b 2147483645 % 2147483647 from if_pos ⟨ha, hb⟩)
      go_enter Try.func6, Try.ntmps6
      go_wp2_with fail
      refine (fok_yes_spec a _ ha.1 ha.2).mono ?_; rintro e w' ⟨rfl, rfl⟩
      go_wp2_with fail
      refine (fok_yes_spec b _ hb.1 hb.2).mono ?_; rintro e w' ⟨rfl, rfl⟩
      go_wp2_with fail
      refine (finv_spec b _ b0 b1).mono ?_; rintro e w' ⟨rfl, rfl⟩
      go_wp2_with fail
      refine (fmul_spec a _ _ a0 a1 (by omega) (by omega)).mono ?_; rintro e w' ⟨rfl, rfl⟩
      go_wp2_with fail
      go_ret
      exact ⟨ret_int H.out.symm, rfl⟩
    · have H := Lib.hid (show fdiv a b = -1 from if_neg (fun h => hb h.2))
      go_enter Try.func6, Try.ntmps6
      go_wp2_with fail
      refine (fok_yes_spec a _ ha.1 ha.2).mono ?_; rintro e w' ⟨rfl, rfl⟩
      go_wp2_with fail
      refine (fok_no_spec b _ hb).mono ?_; rintro e w' ⟨rfl, rfl⟩
      go_wp2_with fail
      go_ret
      exact ⟨ret_int H.out.symm, rfl⟩
  · have H := Lib.hid (show fdiv a b = -1 from if_neg (fun h => ha h.1))
    go_enter Try.func6, Try.ntmps6
    go_wp2_with fail
    refine (fok_no_spec a _ ha).mono ?_; rintro e w' ⟨rfl, rfl⟩
    go_wp2_with fail
    go_ret
    exact ⟨ret_int H.out.symm, rfl⟩

set_option maxHeartbeats 400000 in
theorem law_FnExactFDiv (a b : Int) (w : World) (a0 : -9223372036854775808 ≤ a) (a1 : a ≤ 9223372036854775807) (b0 : -9223372036854775808 ≤ b) (b1 : b ≤ 9223372036854775807) :
    Calls Try.prog 3 #[.int .i64 a, .int .i64 b] w fun e w' => e = .returned (.bool true) ∧ Below w.heap.size w w' := by
  go_enter Try.func3, Try.ntmps3
  go_wp2_with fail
  refine (fdiv_spec a b _ a0 a1 b0 b1).mono ?_; rintro e w' ⟨rfl, rfl⟩
  go_wp2_with fail
  refine (fdiv_impl a b _ a0 a1 b0 b1).mono ?_; rintro e w' ⟨rfl, be⟩
  go_wp2_with fail
  go_ret
  exact ⟨rfl, be⟩

theorem dec_self (xs : List Int) : decide (xs = xs) = true := decide_eq_true rfl

set_option maxRecDepth 100000 in
set_option maxHeartbeats 1600000 in
theorem law_FnExactFSum (v : Value) (xs : List Int) (w : World) (h1 : Ints w.heap.size w v xs) :
    Calls Try.prog 4 #[v] w fun e w' => e = .returned (.bool true) ∧ Below w.heap.size w w' := by
  obtain ⟨a, ca, rfl, la, ba⟩ := h1.shape
  by_cases hl : xs.length ≤ 1048576
  · go_enter Try.func4, Try.ntmps4
    go_wp2_with fail
    refine (toIntS_any _ _ xs w h1 (Nat.le_refl _) (by omega)).mono ?_; rintro e w1 ⟨u1, rfl, be1, i1⟩
    go_wp2_with fail
    refine (fsum_spec _ _ xs w1 i1).mono ?_; rintro e w' ⟨rfl, rfl⟩
    go_wp2_with fail
    refine (toIntS_any _ _ xs w1 (h1.keep be1 (Nat.le_refl _)) be1.size (by omega)).mono ?_; rintro e w2 ⟨u2, rfl, be2, i2⟩
    have b2 := be1.trans (be2.mono be1.size)
    go_wp2_with fail
    refine (fsum_impl _ _ xs w2 i2).mono ?_; rintro e w' ⟨rfl, rfl⟩
    go_wp2_with fail
    refine (toIntS_any _ _ xs w2 (h1.keep b2 (Nat.le_refl _)) b2.size (by omega)).mono ?_; rintro e w3 ⟨u3, rfl, be3, i3⟩
    have b3 := b2.trans (be3.mono b2.size)
    go_wp2_with fail
    refine (eqIntS_any w3.heap.size _ _ xs xs w3 ((i2.keep be3 (Nat.le_refl _)).mono be3.size) i3).mono ?_
    rw [dec_self]
    rintro e w4 ⟨rfl, be4⟩
    have b4 := b3.trans (be4.mono b3.size)
    go_wp2_with fail
    go_ret
    exact ⟨rfl, b4⟩
  · go_enter Try.func4, Try.ntmps4
    go_wp2_with fail
    go_ret
    exact ⟨rfl, Below.refl _ _⟩

set_option maxRecDepth 100000 in
set_option maxHeartbeats 1600000 in
theorem law_FnExactFDot (v u : Value) (xs ys : List Int) (w : World) (h1 : Ints w.heap.size w v xs) (h2 : Ints w.heap.size w u ys) :
    Calls Try.prog 5 #[v, u] w fun e w' => e = .returned (.bool true) ∧ Below w.heap.size w w' := by
  obtain ⟨a, ca, rfl, la, ba⟩ := h1.shape
  obtain ⟨b, cb, rfl, lb, bb⟩ := h2.shape
  by_cases hl : xs.length ≤ 1048576
  · by_cases hl2 : ys.length ≤ 1048576
    · go_enter Try.func5, Try.ntmps5
      go_wp2_with fail
      refine (toIntS_any _ _ xs w h1 (Nat.le_refl _) (by omega)).mono ?_; rintro e w1 ⟨u1, rfl, be1, i1⟩
      go_wp2_with fail
      refine (toIntS_any _ _ ys w1 (h2.keep be1 (Nat.le_refl _)) be1.size (by omega)).mono ?_; rintro e w2 ⟨u2, rfl, be2, i2⟩
      have b2 := be1.trans (be2.mono be1.size)
      go_wp2_with fail
      refine (fdot_spec w2.heap.size _ _ xs ys w2 ((i1.keep be2 (Nat.le_refl _)).mono be2.size) i2).mono ?_; rintro e w3 ⟨rfl, be3⟩
      have b3 := b2.trans (be3.mono b2.size)
      go_wp2_with fail
      refine (toIntS_any _ _ xs w3 (h1.keep b3 (Nat.le_refl _)) b3.size (by omega)).mono ?_; rintro e w4 ⟨u4, rfl, be4, i4⟩
      have b4 := b3.trans (be4.mono b3.size)
      go_wp2_with fail
      refine (toIntS_any _ _ ys w4 (h2.keep b4 (Nat.le_refl _)) b4.size (by omega)).mono ?_; rintro e w5 ⟨u5, rfl, be5, i5⟩
      have b5 := b4.trans (be5.mono b4.size)
      have i4' := (i4.keep be5 (Nat.le_refl _)).mono be5.size
      go_wp2_with fail
      refine (fdot_impl w5.heap.size _ _ xs ys w5 i4' i5).mono ?_; rintro e w6 ⟨rfl, be6⟩
      have b6 := b5.trans (be6.mono b5.size)
      have i4'' := i4'.keep be6 (Nat.le_refl _)
      have i5'' := i5.keep be6 (Nat.le_refl _)
      go_wp2_with fail
      refine (toIntS_any _ _ xs w6 (h1.keep b6 (Nat.le_refl _)) b6.size (by omega)).mono ?_; rintro e w7 ⟨u7, rfl, be7, i7⟩
      have b7 := b6.trans (be7.mono b6.size)
      go_wp2_with fail
      refine (eqIntS_any w7.heap.size _ _ xs xs w7 ((i4''.mono be6.size).keep be7 (Nat.le_refl _) |>.mono be7.size) i7).mono ?_
      rw [dec_self]
      rintro e w8 ⟨rfl, be8⟩
      have b8 := b7.trans (be8.mono b7.size)
      have i5a := ((i5''.mono be6.size).keep be7 (Nat.le_refl _) |>.mono be7.size).keep be8 (Nat.le_refl _)
      go_wp2_with fail
      refine (toIntS_any _ _ ys w8 (h2.keep b8 (Nat.le_refl _)) b8.size (by omega)).mono ?_; rintro e w9 ⟨u9, rfl, be9, i9⟩
      have b9 := b8.trans (be9.mono b8.size)
      go_wp2_with fail
      refine (eqIntS_any w9.heap.size _ _ ys ys w9 ((i5a.mono be8.size).keep be9 (Nat.le_refl _) |>.mono be9.size) i9).mono ?_
      rw [dec_self]
      rintro e w10 ⟨rfl, be10⟩
      have b10 := b9.trans (be10.mono b9.size)
      go_wp2_with fail
      go_ret
      exact ⟨rfl, b10⟩
    · go_enter Try.func5, Try.ntmps5
      go_wp2_with fail
      go_ret
      exact ⟨rfl, Below.refl _ _⟩
  · go_enter Try.func5, Try.ntmps5
    go_wp2_with fail
    go_ret
    exact ⟨rfl, Below.refl _ _⟩
end Go.Proofs.Ytohngajjmlldjab.S
