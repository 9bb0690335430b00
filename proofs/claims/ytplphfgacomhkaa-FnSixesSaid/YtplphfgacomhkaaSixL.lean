/- FnSixes: characters and their indices correspond one to one. -/
import Derived.Test.YtplphfgacomhkaaRow
import Derived.Test.YtplphfgacomhkaaSix
namespace Go.Proofs.Ytplphfgacomhkaa.L
open Go.RowKit Go.Proofs.Ytplphfgacomhkaa.S
set_option linter.unusedVariables false
set_option linter.unusedSimpArgs false

set_option maxRecDepth 100000 in
set_option maxHeartbeats 1600000 in
theorem drawSix_any (a : Option Addr) (len cap : Nat) (w : World) (hr : Row w.heap.size w a len) :
    Calls Try.prog 21 #[.slice a len cap] w fun e w' => ∃ x : Int, e = .returned (.int .i64 x) ∧ Fits x ∧ Below w.heap.size w w' := by
  go_enter Try.func21, Try.ntmps21
  go_wp2_with fail
  refine (l1New_any a len cap w hr).mono ?_
  rintro e w1 ⟨rfl, cu1, be1, sz1⟩
  go_wp2_with fail
  refine (l1Below_any w.heap.size w.heap.size a len cap 256 w1 (by omega) be1.size cu1).mono ?_
  rintro e w2 ⟨x, rfl, ⟨k0, k1⟩, cu2, gr2⟩
  have be2 := be1.trans (below_of_grown gr2 (Nat.le_refl _) be1.size)
  have hcs : w.heap.size < w2.heap.size := World.block_lt_of_cell? w2 ⟨w.heap.size, 0, none⟩ cu2.c0
  have gr3 := grownBy.alloc (grownBy.refl w2 (some w.heap.size)) (.cells #[.int .i64 65, .int .i64 90, .int .i64 97, .int .i64 122, .int .i64 48, .int .i64 57, .int .i64 43, .int .i64 47, .int .i64 61, .int .i64 (-1), .int .i64 x] 3)
  have be3 := be2.trans (below_of_grown gr3 (Nat.le_refl _) be2.size)
  have cu3 := cu2.keep ((Below.refl w.heap.size w2).alloc be2.size (.cells #[.int .i64 65, .int .i64 90, .int .i64 97, .int .i64 122, .int .i64 48, .int .i64 57, .int .i64 43, .int .i64 47, .int .i64 61, .int .i64 (-1), .int .i64 x] 3)) (Below.heap_alloc _ _ _ hcs)
  have el := Elems.new (w := w2) (t := 3) (l := [65, 90, 97, 122, 48, 57, 43, 47, 61, -1, x]) (P := Fits) _ rfl (by
    intro v hv
    simp only [List.mem_cons, List.not_mem_nil, or_false] at hv
    unfold Fits
    omega)
  go_wp2_with fail
  refine (l1PickInt_any w.heap.size w.heap.size a len cap w2.heap.size 0 11 11 Fits _ (by omega) (by omega) (by omega) (by simp) (by simp; omega) cu3 el).mono ?_
  rintro e w4 ⟨v, rfl, hv, cu4, gr4⟩
  have be4 := be3.trans (below_of_grown gr4 (Nat.le_refl _) be3.size)
  go_wp2_with fail
  go_ret
  exact ⟨_, rfl, hv, be4⟩

set_option maxRecDepth 100000 in
set_option maxHeartbeats 1600000 in
theorem drawChar_any (a : Option Addr) (len cap : Nat) (w : World) (hr : Row w.heap.size w a len) :
    Calls Try.prog 22 #[.slice a len cap] w fun e w' => ∃ x : Int, e = .returned (.int .i64 x) ∧ Fits x ∧ Below w.heap.size w w' := by
  go_enter Try.func22, Try.ntmps22
  go_wp2_with fail
  refine (l1New_any a len cap w hr).mono ?_
  rintro e w1 ⟨rfl, cu1, be1, sz1⟩
  go_wp2_with fail
  refine (l1Below_any w.heap.size w.heap.size a len cap 64 w1 (by omega) be1.size cu1).mono ?_
  rintro e w2 ⟨x, rfl, ⟨k0, k1⟩, cu2, gr2⟩
  have be2 := be1.trans (below_of_grown gr2 (Nat.le_refl _) be1.size)
  have hcs : w.heap.size < w2.heap.size := World.block_lt_of_cell? w2 ⟨w.heap.size, 0, none⟩ cu2.c0
  have gr3 := grownBy.alloc (grownBy.refl w2 (some w.heap.size)) (.cells #[.int .i64 0, .int .i64 25, .int .i64 26, .int .i64 51, .int .i64 52, .int .i64 61, .int .i64 62, .int .i64 63, .int .i64 64, .int .i64 (-1), .int .i64 x] 3)
  have be3 := be2.trans (below_of_grown gr3 (Nat.le_refl _) be2.size)
  have cu3 := cu2.keep ((Below.refl w.heap.size w2).alloc be2.size (.cells #[.int .i64 0, .int .i64 25, .int .i64 26, .int .i64 51, .int .i64 52, .int .i64 61, .int .i64 62, .int .i64 63, .int .i64 64, .int .i64 (-1), .int .i64 x] 3)) (Below.heap_alloc _ _ _ hcs)
  have el := Elems.new (w := w2) (t := 3) (l := [0, 25, 26, 51, 52, 61, 62, 63, 64, -1, x]) (P := Fits) _ rfl (by
    intro v hv
    simp only [List.mem_cons, List.not_mem_nil, or_false] at hv
    unfold Fits
    omega)
  go_wp2_with fail
  refine (l1PickInt_any w.heap.size w.heap.size a len cap w2.heap.size 0 11 11 Fits _ (by omega) (by omega) (by omega) (by simp) (by simp; omega) cu3 el).mono ?_
  rintro e w4 ⟨v, rfl, hv, cu4, gr4⟩
  have be4 := be3.trans (below_of_grown gr4 (Nat.le_refl _) be3.size)
  go_wp2_with fail
  go_ret
  exact ⟨_, rfl, hv, be4⟩

theorem Row.wide {B B' : Nat} {w : World} {a : Option Addr} {len : Nat} (h : Row B w a len) (hb : B ≤ B') : Row B' w a len := by
  obtain ⟨h1, h2⟩ := h
  refine ⟨h1, ?_⟩
  rcases h2 with h2 | ⟨b, off, e, hl, hc⟩
  · exact .inl h2
  · exact .inr ⟨b, off, e, by omega, hc⟩
theorem six_66 : six 66 = 1 := by kernel_rfl
theorem chr_63 : chr 63 = 47 := by kernel_rfl
set_option maxRecDepth 100000 in
set_option maxHeartbeats 3200000 in
theorem law_FnSixes (a : Option Addr) (len cap : Nat) (w : World) (hr : Row w.heap.size w a len) :
    Calls Try.prog 7 #[.slice a len cap] w fun e w' => e = .returned (.bool true) ∧ Below w.heap.size w w' := by
  have S1 := six_impl 66
  rw [six_66] at S1
  have HS1 := Lib.hid S1; clear S1
  have C1 := char_impl 63
  rw [chr_63] at C1
  have HC1 := Lib.hid C1; clear C1
  go_enter Try.func7, Try.ntmps7
  go_wp2_with fail
  refine (drawSix_any a len cap w hr).mono ?_
  rintro e w1 ⟨x, rfl, hx, be1⟩
  have hr1 : Row w1.heap.size w1 a len := Row.wide (hr.keep be1) be1.size
  rcases six_cases x with ⟨k, hk, hxk, hs⟩ | ⟨hno, hs⟩
  case' inl =>
    have A1 := six_impl x
    rw [hs] at A1
    have HA1 := Lib.hid A1; clear A1
    have A2 := char_impl (k : Int)
    rw [chr_in (n := (k : Int)) (by omega), show ((k : Int)).toNat = k from by omega, hxk] at A2
    have HA2 := Lib.hid A2; clear A2
    clear hs
    go_wp2_with fail
    refine (HA1.out _).mono ?_; rintro e w2 ⟨rfl, f2⟩
    have be2 := be1.trans (f2.mono be1.size)
    have hr2 : Row w2.heap.size w2 a len := Row.wide (hr1.keep f2) f2.size
    go_wp2_with fail
    refine (drawChar_any a len cap _ hr2).mono ?_; rintro e w3 ⟨c, rfl, hc, f3⟩
    have be3 := be2.trans (f3.mono be2.size)
    by_cases c0 : c < 0
    case' pos =>
      have g2 : decide (c < 0) = true := decide_eq_true c0
      have g3 : decide (63 < c) = false := decide_eq_false (by omega)
      have D1 := char_impl c
      rw [chr_out (n := c) (by omega)] at D1
      have HD1 := Lib.hid D1; clear D1
      go_wp2_with fail
      refine (HD1.out _).mono ?_; rintro e w4 ⟨rfl, f4⟩
      have be4 := be3.trans (f4.mono be3.size)
      go_wp2_with fail
      refine (HS1.out _).mono ?_; rintro e w5 ⟨rfl, f5⟩
      have be5 := be4.trans (f5.mono be4.size)
      go_wp2_with fail
      refine (HC1.out _).mono ?_; rintro e w6 ⟨rfl, f6⟩
      have be6 := be5.trans (f6.mono be5.size)
      go_wp2_with fail
      refine (HA2.out _).mono ?_; rintro e w7 ⟨rfl, f7⟩
      have be7 := be6.trans (f7.mono be6.size)
      go_wp2_with fail
      go_ret
      exact ⟨rfl, be7⟩
    by_cases c1 : 63 < c
    case' pos =>
      have g2 : decide (c < 0) = false := decide_eq_false c0
      have g3 : decide (63 < c) = true := decide_eq_true c1
      have D1 := char_impl c
      rw [chr_out (n := c) (by omega)] at D1
      have HD1 := Lib.hid D1; clear D1
      go_wp2_with fail
      refine (HD1.out _).mono ?_; rintro e w4 ⟨rfl, f4⟩
      have be4 := be3.trans (f4.mono be3.size)
      go_wp2_with fail
      refine (HS1.out _).mono ?_; rintro e w5 ⟨rfl, f5⟩
      have be5 := be4.trans (f5.mono be4.size)
      go_wp2_with fail
      refine (HC1.out _).mono ?_; rintro e w6 ⟨rfl, f6⟩
      have be6 := be5.trans (f6.mono be5.size)
      go_wp2_with fail
      refine (HA2.out _).mono ?_; rintro e w7 ⟨rfl, f7⟩
      have be7 := be6.trans (f7.mono be6.size)
      go_wp2_with fail
      go_ret
      exact ⟨rfl, be7⟩
    obtain ⟨m, rfl⟩ : ∃ m : Nat, c = (m : Int) := ⟨c.toNat, by omega⟩
    have hm : m < 64 := by omega
    have D1 := char_impl (m : Int)
    rw [chr_in (n := (m : Int)) (by omega), show ((m : Int)).toNat = m from by omega] at D1
    have HD1 := Lib.hid D1; clear D1
    have D2 := six_impl (chN m : Int)
    rw [six_at hm rfl] at D2
    have HD2 := Lib.hid D2; clear D2
    obtain ⟨m0, m1⟩ := ch_in hm
    clear c0 c1
    have g1 : decide ((chN m : Int) < 0) = false := decide_eq_false (by omega)
    have g2 : decide ((m : Int) < 0) = false := decide_eq_false (by omega)
    have g3 : decide (63 < (m : Int)) = false := decide_eq_false (by omega)
    go_wp2_with fail
    refine (HD1.out _).mono ?_; rintro e w4 ⟨rfl, f4⟩
    have be4 := be3.trans (f4.mono be3.size)
    go_wp2_with fail
    refine (HS1.out _).mono ?_; rintro e w5 ⟨rfl, f5⟩
    have be5 := be4.trans (f5.mono be4.size)
    go_wp2_with fail
    refine (HC1.out _).mono ?_; rintro e w6 ⟨rfl, f6⟩
    have be6 := be5.trans (f6.mono be5.size)
    go_wp2_with fail
    refine (HA2.out _).mono ?_; rintro e w7 ⟨rfl, f7⟩
    have be7 := be6.trans (f7.mono be6.size)
    go_wp2_with fail
    refine (HD2.out _).mono ?_; rintro e w8 ⟨rfl, f8⟩
    have be8 := be7.trans (f8.mono be7.size)
    go_wp2_with fail
    go_ret
    exact ⟨rfl, be8⟩
  case' inr =>
    have A1 := six_impl x
    rw [hs] at A1
    have HA1 := Lib.hid A1; clear A1
    clear hs
    go_wp2_with fail
    refine (HA1.out _).mono ?_; rintro e w2 ⟨rfl, f2⟩
    have be2 := be1.trans (f2.mono be1.size)
    have hr2 : Row w2.heap.size w2 a len := Row.wide (hr1.keep f2) f2.size
    go_wp2_with fail
    refine (drawChar_any a len cap _ hr2).mono ?_; rintro e w3 ⟨c, rfl, hc, f3⟩
    have be3 := be2.trans (f3.mono be2.size)
    by_cases c0 : c < 0
    case' pos =>
      have g2 : decide (c < 0) = true := decide_eq_true c0
      have g3 : decide (63 < c) = false := decide_eq_false (by omega)
      have D1 := char_impl c
      rw [chr_out (n := c) (by omega)] at D1
      have HD1 := Lib.hid D1; clear D1
      go_wp2_with fail
      refine (HD1.out _).mono ?_; rintro e w4 ⟨rfl, f4⟩
      have be4 := be3.trans (f4.mono be3.size)
      go_wp2_with fail
      refine (HS1.out _).mono ?_; rintro e w5 ⟨rfl, f5⟩
      have be5 := be4.trans (f5.mono be4.size)
      go_wp2_with fail
      refine (HC1.out _).mono ?_; rintro e w6 ⟨rfl, f6⟩
      have be6 := be5.trans (f6.mono be5.size)
      go_wp2_with fail
      go_ret
      exact ⟨rfl, be6⟩
    by_cases c1 : 63 < c
    case' pos =>
      have g2 : decide (c < 0) = false := decide_eq_false c0
      have g3 : decide (63 < c) = true := decide_eq_true c1
      have D1 := char_impl c
      rw [chr_out (n := c) (by omega)] at D1
      have HD1 := Lib.hid D1; clear D1
      go_wp2_with fail
      refine (HD1.out _).mono ?_; rintro e w4 ⟨rfl, f4⟩
      have be4 := be3.trans (f4.mono be3.size)
      go_wp2_with fail
      refine (HS1.out _).mono ?_; rintro e w5 ⟨rfl, f5⟩
      have be5 := be4.trans (f5.mono be4.size)
      go_wp2_with fail
      refine (HC1.out _).mono ?_; rintro e w6 ⟨rfl, f6⟩
      have be6 := be5.trans (f6.mono be5.size)
      go_wp2_with fail
      go_ret
      exact ⟨rfl, be6⟩
    obtain ⟨m, rfl⟩ : ∃ m : Nat, c = (m : Int) := ⟨c.toNat, by omega⟩
    have hm : m < 64 := by omega
    have D1 := char_impl (m : Int)
    rw [chr_in (n := (m : Int)) (by omega), show ((m : Int)).toNat = m from by omega] at D1
    have HD1 := Lib.hid D1; clear D1
    have D2 := six_impl (chN m : Int)
    rw [six_at hm rfl] at D2
    have HD2 := Lib.hid D2; clear D2
    obtain ⟨m0, m1⟩ := ch_in hm
    clear c0 c1
    have g1 : decide ((chN m : Int) < 0) = false := decide_eq_false (by omega)
    have g2 : decide ((m : Int) < 0) = false := decide_eq_false (by omega)
    have g3 : decide (63 < (m : Int)) = false := decide_eq_false (by omega)
    go_wp2_with fail
    refine (HD1.out _).mono ?_; rintro e w4 ⟨rfl, f4⟩
    have be4 := be3.trans (f4.mono be3.size)
    go_wp2_with fail
    refine (HS1.out _).mono ?_; rintro e w5 ⟨rfl, f5⟩
    have be5 := be4.trans (f5.mono be4.size)
    go_wp2_with fail
    refine (HC1.out _).mono ?_; rintro e w6 ⟨rfl, f6⟩
    have be6 := be5.trans (f6.mono be5.size)
    go_wp2_with fail
    refine (HD2.out _).mono ?_; rintro e w7 ⟨rfl, f7⟩
    have be7 := be6.trans (f7.mono be6.size)
    go_wp2_with fail
    go_ret
    exact ⟨rfl, be7⟩
end Go.Proofs.Ytplphfgacomhkaa.L
