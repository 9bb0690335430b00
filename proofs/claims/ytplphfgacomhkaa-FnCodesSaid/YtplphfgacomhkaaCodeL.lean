/- FnCodes: bytes are recovered from their characters, and decoded characters are those of the bytes. -/
import Derived.Test.YtplphfgacomhkaaCodeD
import Derived.Test.YtplphfgacomhkaaCodeJ
import Derived.Test.YtplphfgacomhkaaB3
namespace Go.Proofs.Ytplphfgacomhkaa.L
open Go.RowKit Go.Proofs.Ytplphfgacomhkaa.S
set_option linter.unusedVariables false
set_option linter.unusedSimpArgs false

set_option maxRecDepth 100000 in
set_option maxHeartbeats 1600000 in
theorem sameI_any (lim : Nat) (v u : Value) (xs ys : List Int) (w : World) (h1 : Ints lim w v xs) (h2 : Ints lim w u ys) :
    Calls Try.prog 24 #[v, u] w fun e w' => e = .returned (.bool (decide (xs = ys))) ∧ Below lim w w' := by
  obtain ⟨a, ca, rfl, la, ba⟩ := h1.shape
  obtain ⟨b, cb, rfl, lb, bb⟩ := h2.shape
  by_cases hl : xs.length = ys.length
  · have hne : ((xs.length : Int) != (ys.length : Int)) = false := by simp [hl]
    have HL := Lib.hid hl
    clear hl
    go_enter Try.func24, Try.ntmps24
    go_wp2_with fail
    go_loopw [5] (fun i wr => ∃ k n : Nat, k ≤ xs.length ∧ i = .int .i64 k ∧ wr = w.drewN n ∧ xs.take k = ys.take k) (fun i _ => xs.length - (intOf i).toNat)
    case atStart => exact ⟨0, 0, Nat.zero_le _, rfl, rfl, rfl⟩
    case round =>
      obtain ⟨k, n, hk, rfl, hwr, ht⟩ := hrel
      have HT := Lib.hid ht
      clear ht
      have be : Below lim w wr := by rw [hwr]; exact below_drewN _ _ _
      by_cases hlt : k < xs.length
      · have hlt2 : k < ys.length := by rw [← HL.out]; exact hlt
        obtain ⟨b1, o1, x, rfl, l1, c1, e1, _⟩ := (h1.keep be (Nat.le_refl _)).at hlt
        obtain ⟨b2, o2, y, rfl, l2, c2, e2, _⟩ := (h2.keep be (Nat.le_refl _)).at hlt2
        by_cases hxy : x = y
        · have hb : (x != y) = false := by simp [hxy]
          have HR : Hid (xs.take (k + 1) = ys.take (k + 1)) := Lib.hid (by rw [take_step e1, take_step e2, HT.out, hxy])
          have HW := Lib.hid hwr
          clear hxy hwr e1 e2
          go_wp2_with fail
          go_region
          go_wp2_with fail
          go_roundw
          case rel => exact ⟨k + 1, n + 1, by omega, by go_num, by rw [HW.out]; rfl, HR.out⟩
          case measure => simp [intOf]; omega
        · have hb : (x != y) = true := by simp [hxy]
          have HF := Lib.hid (S.take_ne e1 e2 hxy)
          clear hwr e1 e2
          go_wp2_with fail
          go_region
          go_wp2_with fail
          go_ret
          exact ⟨ret_bool HF.out.symm, be.drew⟩
      · have HF : Hid (decide (xs = ys) = true) := Lib.hid (by
          rw [decide_eq_true_iff]
          have := HT.out
          have h2 := HL.out
          rwa [take_end hlt, take_end (by omega)] at this)
        clear hwr
        go_wp2_with fail
        go_ret
        exact ⟨ret_bool HF.out.symm, be⟩
  · have hne : ((xs.length : Int) != (ys.length : Int)) = true := by simp; omega
    have HF : Hid (decide (xs = ys) = false) := Lib.hid (by rw [decide_eq_false_iff_not]; intro e; exact hl (by rw [e]))
    clear hl
    go_enter Try.func24, Try.ntmps24
    go_wp2_with fail
    go_ret
    exact ⟨ret_bool HF.out.symm, Below.refl _ _⟩


theorem row_wide' {B B' : Nat} {w : World} {a : Option Addr} {len : Nat} (h : Row B w a len) (hb : B ≤ B') : Row B' w a len := by
  obtain ⟨h1, h2⟩ := h
  refine ⟨h1, ?_⟩
  rcases h2 with h2 | ⟨b, off, e, hl, hc⟩
  · exact .inl h2
  · exact .inr ⟨b, off, e, by omega, hc⟩
theorem ints_newL (w : World) (t : TypeId) (xs : List Int) (n : Nat) (hn : n = xs.length) (hx : ∀ x ∈ xs, S.Fits x) (hl : xs.length ≤ 9223372036854775807) :
    Ints (w.heap.size + 1) (w.alloc (.cells (xs.map (Value.int .i64)).toArray t)) (.slice (some ⟨w.heap.size, 0, none⟩) n n) xs := by
  subst hn
  refine ⟨_, _, rfl, Nat.le_refl _, hl, hx, .inr ⟨w.heap.size, 0, rfl, by omega, fun j x hj => ?_⟩⟩
  rw [Nat.zero_add, World.cell?_alloc_at _ _ _ _ rfl]
  simp [hj]
theorem enc_000 : encL [0, 0, 0] = [65, 65, 65, 65] := by kernel_rfl
theorem encOk_000 : encOk [0, 0, 0] = true := by kernel_rfl
theorem fits_000 : ∀ x ∈ [(0 : Int), 0, 0], S.Fits x := by intro x hx; simp at hx; subst hx; unfold S.Fits; omega
theorem fits_AAAA : ∀ x ∈ [(65 : Int), 65, 65, 65], S.Fits x := by intro x hx; simp at hx; subst hx; unfold S.Fits; omega
set_option maxRecDepth 100000 in
set_option maxHeartbeats 6400000 in
theorem law_FnCodes (a : Option Addr) (len cap : Nat) (w : World) (hr : Row w.heap.size w a len) :
    Calls Try.prog 8 #[.slice a len cap] w fun e w' => e = .returned (.bool true) ∧ Below w.heap.size w w' := by
  go_enter Try.func8, Try.ntmps8
  go_wp2_with fail
  refine (drawEncode64_any a len cap w hr).mono ?_
  rintro e w1 ⟨u1, bs, rfl, n1, l1, be1⟩
  obtain ⟨ra, rc, rfl, rl, rb⟩ := n1.shape
  have E1 := encode_impl w1.heap.size _ bs w1 n1.ints (Nat.le_refl _)
  obtain ⟨ok, hok⟩ : ∃ ok, ok = encOk bs := ⟨_, rfl⟩
  obtain ⟨ts, hts⟩ : ∃ ts, ts = encL bs := ⟨_, rfl⟩
  have lts : ts.length ≤ 16 := by rw [hts]; exact encL_len bs
  rw [← hok, ← hts] at E1
  have HE1 := Lib.hid E1
  have HOK := Lib.hid hok
  have HTS := Lib.hid hts
  clear E1 hok hts
  go_wp2_with fail
  refine (HE1.out).mono ?_; rintro e w2 ⟨u2, rfl, f2, n2⟩
  have be2 := be1.trans (f2.mono be1.size)
  have n12 := n1.keep f2 (Nat.le_refl _)
  have z2 := f2.size
  obtain ⟨sa, sc, rfl, sl, sb⟩ := n2.shape
  clear n1 HE1
  go_wp2_with fail
  refine name_call fun w3 hw3 => ?_
  have e3 : Below w2.heap.size w2 w3 := by rw [hw3]; (repeat (with_reducible first | exact bR _ _ | assumption | refine bD ?_ | refine bN ?_ _ | refine bA ?_ _ | refine bS ?_ _))
  have z3 : w2.heap.size + 1 ≤ w3.heap.size := by rw [hw3]; simp
  have t3 : Ints (w2.heap.size + 1) w3 (.slice (some ⟨w2.heap.size, 0, none⟩) 3 3) [0, 0, 0] := by rw [hw3]; exact ints_newL w2 _ [0, 0, 0] 3 rfl fits_000 (by simp)
  have be3 := be2.trans (e3.mono be2.size)
  have n13 := n12.keep e3 (by omega)
  have n23 := n2.keep e3 (Nat.le_refl _)
  clear hw3 n12 n2
  have E3 := encode_impl (w2.heap.size + 1) _ [0, 0, 0] w3 t3 z3
  rw [enc_000, encOk_000] at E3
  have HE3 := Lib.hid E3
  clear E3
  refine (HE3.out).mono ?_; rintro e w4 ⟨u4, rfl, f4, n4⟩
  have be4 := be3.trans (f4.mono be3.size)
  have n14 := n13.keep f4 (by omega)
  have n24 := n23.keep f4 (by omega)
  have z4 := f4.size
  obtain ⟨oa, oc, rfl, ol, ob⟩ := n4.shape
  clear n13 n23 HE3 t3
  go_wp2_with fail
  refine name_call fun w5 hw5 => ?_
  have e5 : Below w4.heap.size w4 w5 := by rw [hw5]; (repeat (with_reducible first | exact bR _ _ | assumption | refine bD ?_ | refine bN ?_ _ | refine bA ?_ _ | refine bS ?_ _))
  have z5 : w4.heap.size + 1 ≤ w5.heap.size := by rw [hw5]; simp
  have t5 : Ints w5.heap.size w5 (.slice (some ⟨w4.heap.size, 0, none⟩) 4 4) [65, 65, 65, 65] := (show Ints (w4.heap.size + 1) w5 (.slice (some ⟨w4.heap.size, 0, none⟩) 4 4) [65, 65, 65, 65] by rw [hw5]; exact ints_newL w4 _ [65, 65, 65, 65] 4 rfl fits_AAAA (by simp)).mono z5
  have be5 := be4.trans (e5.mono be4.size)
  have n15 := n14.keep e5 (by omega)
  have n25 := n24.keep e5 (by omega)
  have n45 := n4.keep e5 (Nat.le_refl _)
  clear hw5 n14 n24 n4
  have E5 := sameI_any w5.heap.size _ _ _ _ w5 (n45.ints.mono (by omega)) t5
  rw [decide_eq_true (rfl : [(65 : Int), 65, 65, 65] = [65, 65, 65, 65])] at E5
  have HE5 := Lib.hid E5
  clear E5
  refine (HE5.out).mono ?_; rintro e w6 ⟨rfl, f6⟩
  have be6 := be5.trans (f6.mono be5.size)
  have n16 := n15.keep f6 (by omega)
  have n26 := n25.keep f6 (by omega)
  have z6 := f6.size
  clear n15 n25 n45 HE5 t5
  cases ok
  case false =>
    have hr7 : Row w6.heap.size w6 a len := row_wide' (hr.keep be6) be6.size
    go_wp2_with fail
    refine (drawDecode64_any a len cap _ hr7).mono ?_
    rintro e w9 ⟨u9, xs, rfl, n9, l9, f9⟩
    have be9 := be6.trans (f9.mono be6.size)
    obtain ⟨xa, xc, rfl, xl, xb⟩ := n9.shape
    have D9 := decode_impl w9.heap.size _ xs w9 n9.ints (Nat.le_refl _)
    obtain ⟨ys, hys⟩ : ∃ ys, ys = decL xs := ⟨_, rfl⟩
    rw [← hys] at D9
    have lys : ys.length ≤ 12 := by rw [hys]; exact decL_len xs
    cases hd : decOk xs
    · rw [hd] at D9
      have HD9 := Lib.hid D9
      clear D9 hys hd
      go_wp2_with fail
      refine (HD9.out).mono ?_; rintro e w10 ⟨u10, rfl, f10, n10⟩
      have be10 := be9.trans (f10.mono be9.size)
      obtain ⟨ya, yc, rfl, yl, yb⟩ := n10.shape
      have E10 := Lib.hid (encode_impl w10.heap.size _ ys w10 n10.ints (Nat.le_refl _))
      go_wp2_with fail
      refine (E10.out).mono ?_; rintro e w11 ⟨u11, rfl, f11, n11⟩
      have be11 := be10.trans (f11.mono be10.size)
      obtain ⟨za, zc, rfl, zl, zb⟩ := n11.shape
      go_wp2_with fail
      go_ret
      exact ⟨rfl, be11⟩
    · rw [hd] at D9
      have HD9 := Lib.hid D9
      obtain ⟨q1, q2⟩ := text_back hd
      have Q1 := Lib.hid q1
      have Q2 := Lib.hid q2
      have HY := Lib.hid hys
      clear D9 hys hd q1 q2
      go_wp2_with fail
      refine (HD9.out).mono ?_; rintro e w10 ⟨u10, rfl, f10, n10⟩
      have be10 := be9.trans (f10.mono be9.size)
      have n910 := n9.keep f10 (Nat.le_refl _)
      obtain ⟨ya, yc, rfl, yl, yb⟩ := n10.shape
      have E10 := encode_impl w10.heap.size _ ys w10 n10.ints (Nat.le_refl _)
      rw [HY.out, Q1.out, Q2.out, ← HY.out] at E10
      have HE10 := Lib.hid E10
      clear E10
      go_wp2_with fail
      refine (HE10.out).mono ?_; rintro e w11 ⟨u11, rfl, f11, n11⟩
      have be11 := be10.trans (f11.mono be10.size)
      have z10 := f10.size
      have z11 := f11.size
      have n911 := n910.keep f11 (by omega)
      obtain ⟨za, zc, rfl, zl, zb⟩ := n11.shape
      have E11 := sameI_any w11.heap.size _ _ _ _ w11 n11.ints (n911.ints.mono (by omega))
      rw [decide_eq_true (rfl : xs = xs)] at E11
      have HE11 := Lib.hid E11
      clear E11
      go_wp2_with fail
      refine (HE11.out).mono ?_; rintro e w12 ⟨rfl, f12⟩
      go_wp2_with fail
      go_ret
      exact ⟨rfl, be11.trans (f12.mono be11.size)⟩
  case true =>
    obtain ⟨p1, p2, p3⟩ := code_back HOK.out.symm
    have D6 := decode_impl w6.heap.size _ ts w6 (n26.ints.mono (by omega)) (Nat.le_refl _)
    rw [← HTS.out] at p1 p2 p3
    rw [p1, p2] at D6
    have HD6 := Lib.hid D6
    have hne : (((ts.length : Int) * 3) != ((bs.length : Int) * 4)) = false := by simp; omega
    have tl : (ts.length : Int) ≤ 16 := by omega
    have bl : (bs.length : Int) ≤ 20 := by omega
    clear D6 p1 p2 p3
    go_wp2_with fail
    refine (HD6.out).mono ?_; rintro e w7 ⟨u7, rfl, f7, n7⟩
    have be7 := be6.trans (f7.mono be6.size)
    have n17 := n16.keep f7 (by omega)
    have z7 := f7.size
    obtain ⟨pa, pc, rfl, pl, pb⟩ := n7.shape
    have E7 := sameI_any w7.heap.size _ _ _ _ w7 n7.ints (n17.ints.mono (by omega))
    rw [decide_eq_true (rfl : bs = bs)] at E7
    have HE7 := Lib.hid E7
    clear E7 HD6
    go_wp2_with fail
    refine (HE7.out).mono ?_; rintro e w8 ⟨rfl, f8⟩
    have be8 := be7.trans (f8.mono be7.size)
    clear HE7 n7 n17 n16 n26
    have hr7 : Row w8.heap.size w8 a len := row_wide' (hr.keep be8) be8.size
    go_wp2_with fail
    refine (drawDecode64_any a len cap _ hr7).mono ?_
    rintro e w9 ⟨u9, xs, rfl, n9, l9, f9⟩
    have be9 := be8.trans (f9.mono be8.size)
    obtain ⟨xa, xc, rfl, xl, xb⟩ := n9.shape
    have D9 := decode_impl w9.heap.size _ xs w9 n9.ints (Nat.le_refl _)
    obtain ⟨ys, hys⟩ : ∃ ys, ys = decL xs := ⟨_, rfl⟩
    rw [← hys] at D9
    have lys : ys.length ≤ 12 := by rw [hys]; exact decL_len xs
    cases hd : decOk xs
    · rw [hd] at D9
      have HD9 := Lib.hid D9
      clear D9 hys hd
      go_wp2_with fail
      refine (HD9.out).mono ?_; rintro e w10 ⟨u10, rfl, f10, n10⟩
      have be10 := be9.trans (f10.mono be9.size)
      obtain ⟨ya, yc, rfl, yl, yb⟩ := n10.shape
      have E10 := Lib.hid (encode_impl w10.heap.size _ ys w10 n10.ints (Nat.le_refl _))
      go_wp2_with fail
      refine (E10.out).mono ?_; rintro e w11 ⟨u11, rfl, f11, n11⟩
      have be11 := be10.trans (f11.mono be10.size)
      obtain ⟨za, zc, rfl, zl, zb⟩ := n11.shape
      go_wp2_with fail
      go_ret
      exact ⟨rfl, be11⟩
    · rw [hd] at D9
      have HD9 := Lib.hid D9
      obtain ⟨q1, q2⟩ := text_back hd
      have Q1 := Lib.hid q1
      have Q2 := Lib.hid q2
      have HY := Lib.hid hys
      clear D9 hys hd q1 q2
      go_wp2_with fail
      refine (HD9.out).mono ?_; rintro e w10 ⟨u10, rfl, f10, n10⟩
      have be10 := be9.trans (f10.mono be9.size)
      have n910 := n9.keep f10 (Nat.le_refl _)
      obtain ⟨ya, yc, rfl, yl, yb⟩ := n10.shape
      have E10 := encode_impl w10.heap.size _ ys w10 n10.ints (Nat.le_refl _)
      rw [HY.out, Q1.out, Q2.out, ← HY.out] at E10
      have HE10 := Lib.hid E10
      clear E10
      go_wp2_with fail
      refine (HE10.out).mono ?_; rintro e w11 ⟨u11, rfl, f11, n11⟩
      have be11 := be10.trans (f11.mono be10.size)
      have z10 := f10.size
      have z11 := f11.size
      have n911 := n910.keep f11 (by omega)
      obtain ⟨za, zc, rfl, zl, zb⟩ := n11.shape
      have E11 := sameI_any w11.heap.size _ _ _ _ w11 n11.ints (n911.ints.mono (by omega))
      rw [decide_eq_true (rfl : xs = xs)] at E11
      have HE11 := Lib.hid E11
      clear E11
      go_wp2_with fail
      refine (HE11.out).mono ?_; rintro e w12 ⟨rfl, f12⟩
      go_wp2_with fail
      go_ret
      exact ⟨rfl, be11.trans (f12.mono be11.size)⟩
end Go.Proofs.Ytplphfgacomhkaa.L
