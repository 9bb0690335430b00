/- FnRests: remainders of products and powers, over drawn numbers (written by tools/gen/restl.py). -/
import Derived.Test.YtbmpdippiafjiaaSixL
import Derived.Test.YtbmpdippiafjiaaRest
import Derived.Test.YtbmpdippiafjiaaList
namespace Go.Proofs.Ytbmpdippiafjiaa.L
open Go.RowKit Go.Proofs.Ytbmpdippiafjiaa.S
set_option linter.unusedVariables false
set_option linter.unusedSimpArgs false

set_option maxRecDepth 100000 in
set_option maxHeartbeats 3200000 in
theorem l8draw_any (B c : Nat) (a : Option Addr) (len cap : Nat) (w : World) (hB : B ≤ w.heap.size) (hcur : Cur B w c a len cap) :
    Calls Try.prog 19 #[.pointer (some ⟨c, 0, none⟩)] w fun e w' => ∃ x y m : Int, e = .returned (.tuple #[.int .i64 x, .int .i64 y, .int .i64 m]) ∧ Cur B w' c a len cap ∧ w.grownBy w' (some c) := by
  have lo := hcur.lo
  go_enter Try.func19, Try.ntmps19
  go_wp2_with fail
  refine (l1Below_any B c a len cap 16000 w (by omega) hB hcur).mono ?_; rintro e w1 ⟨x, rfl, ⟨x0, x1⟩, cu1, gr1⟩
  have z1 := gr1.size
  have hcs : c < w1.heap.size := World.block_lt_of_cell? w1 ⟨c, 0, none⟩ cu1.c0
  have g2 := grownBy.alloc (grownBy.refl w1 (some c)) (.cells #[.int .i64 1, .int .i64 2, .int .i64 97, .int .i64 16384, .int .i64 16385, .int .i64 0, .int .i64 (1 + x)] 3)
  have cu2 := cu1.keep ((Below.refl B w1).alloc (by omega) (.cells #[.int .i64 1, .int .i64 2, .int .i64 97, .int .i64 16384, .int .i64 16385, .int .i64 0, .int .i64 (1 + x)] 3)) (Below.heap_alloc _ _ _ (World.block_lt_of_cell? w1 ⟨c, 0, none⟩ cu1.c0))
  have el2 := Elems.new (w := w1) (t := 3) (l := [1, 2, 97, 16384, 16385, 0, 1 + x]) (P := fun m : Int => -1 ≤ m ∧ m ≤ 16385) _ rfl (by
    intro v hv
    simp only [List.mem_cons, List.not_mem_nil, or_false] at hv
    omega)
  go_wp2_with fail
  refine (l1PickInt_any B c a len cap w1.heap.size 0 7 7 (fun m : Int => -1 ≤ m ∧ m ≤ 16385) _ (by omega) (by omega) (by omega) (by simp) (by simp; omega) cu2 el2).mono ?_; rintro e w3 ⟨m, rfl, hm, cu3, gr3⟩
  have gr03 := grownBy.trans gr1 (grownBy.trans g2 gr3)
  have z3 := gr03.size
  clear x0 x1 gr1 cu1 g2 cu2 el2 gr3 hcur z1 hcs
  have lm : -1 ≤ m := hm.1
  have um : m ≤ 16385 := hm.2
  by_cases h : m < 1
  · go_wp2_with fail
    refine (l1Below_any B c a len cap 5 w3 (by omega) (by omega) cu3).mono ?_; rintro e w4 ⟨y, rfl, ⟨y0, y1⟩, cu4, gr4⟩
    have z4 := gr4.size
    go_wp2_with fail
    refine (l1Below_any B c a len cap 5 w4 (by omega) (by omega) cu4).mono ?_; rintro e w5 ⟨y', rfl, ⟨y0', y1'⟩, cu5, gr5⟩
    have z5 := gr5.size
    go_wp2_with fail
    refine (l1Once_any B c a len cap 9 w5 (by omega) (by omega) cu5).mono ?_; rintro e w6 ⟨b, rfl, cu6, gr6⟩
    have z6 := gr6.size
    have gr06 := grownBy.trans gr03 (grownBy.trans gr4 (grownBy.trans gr5 gr6))
    clear cu3 cu4 cu5 gr03 gr4 gr5 gr6
    have hcs6 : c < w6.heap.size := World.block_lt_of_cell? w6 ⟨c, 0, none⟩ cu6.c0
    cases b with
    | false =>
      go_wp2_with fail
      exact bodyPost_ret (v := .tuple #[.int .i64 y, .int .i64 y', .int .i64 m]) (by simp [results, Try.results19, go_sem]) rfl ⟨_, _, _, rfl, cu6, gr06⟩
    | true =>
      have g7 := grownBy.alloc (grownBy.refl w6 (some c)) (.cells #[.int .i64 (-1), .int .i64 m] 3)
      have cu7 := cu6.keep ((Below.refl B w6).alloc (by omega) (.cells #[.int .i64 (-1), .int .i64 m] 3)) (Below.heap_alloc _ _ _ (World.block_lt_of_cell? w6 ⟨c, 0, none⟩ cu6.c0))
      have el7 := Elems.new (w := w6) (t := 3) (l := [-1, m]) (P := fun m : Int => -1 ≤ m ∧ m ≤ 16385) _ rfl (by
        intro v hv
        simp only [List.mem_cons, List.not_mem_nil, or_false] at hv
        omega)
      go_wp2_with fail
      refine (l1PickInt_any B c a len cap w6.heap.size 0 2 2 (fun m : Int => -1 ≤ m ∧ m ≤ 16385) _ (by omega) (by omega) (by omega) (by simp) (by simp; omega) cu7 el7).mono ?_; rintro e w8 ⟨v, rfl, hv, cu8, gr8⟩
      have gr08 := grownBy.trans gr06 (grownBy.trans g7 gr8)
      go_wp2_with fail
      exact bodyPost_ret (v := .tuple #[.int .i64 v, .int .i64 y', .int .i64 m]) (by simp [results, Try.results19, go_sem]) rfl ⟨_, _, _, rfl, cu8, gr08⟩
  · go_wp2_with fail
    refine (l1Below_any B c a len cap m w3 (by omega) (by omega) cu3).mono ?_; rintro e w4 ⟨y, rfl, ⟨y0, y1⟩, cu4, gr4⟩
    have z4 := gr4.size
    go_wp2_with fail
    refine (l1Below_any B c a len cap m w4 (by omega) (by omega) cu4).mono ?_; rintro e w5 ⟨y', rfl, ⟨y0', y1'⟩, cu5, gr5⟩
    have z5 := gr5.size
    go_wp2_with fail
    refine (l1Once_any B c a len cap 9 w5 (by omega) (by omega) cu5).mono ?_; rintro e w6 ⟨b, rfl, cu6, gr6⟩
    have z6 := gr6.size
    have gr06 := grownBy.trans gr03 (grownBy.trans gr4 (grownBy.trans gr5 gr6))
    clear cu3 cu4 cu5 gr03 gr4 gr5 gr6
    have hcs6 : c < w6.heap.size := World.block_lt_of_cell? w6 ⟨c, 0, none⟩ cu6.c0
    cases b with
    | false =>
      go_wp2_with fail
      exact bodyPost_ret (v := .tuple #[.int .i64 y, .int .i64 y', .int .i64 m]) (by simp [results, Try.results19, go_sem]) rfl ⟨_, _, _, rfl, cu6, gr06⟩
    | true =>
      have g7 := grownBy.alloc (grownBy.refl w6 (some c)) (.cells #[.int .i64 (-1), .int .i64 m] 3)
      have cu7 := cu6.keep ((Below.refl B w6).alloc (by omega) (.cells #[.int .i64 (-1), .int .i64 m] 3)) (Below.heap_alloc _ _ _ (World.block_lt_of_cell? w6 ⟨c, 0, none⟩ cu6.c0))
      have el7 := Elems.new (w := w6) (t := 3) (l := [-1, m]) (P := fun m : Int => -1 ≤ m ∧ m ≤ 16385) _ rfl (by
        intro v hv
        simp only [List.mem_cons, List.not_mem_nil, or_false] at hv
        omega)
      go_wp2_with fail
      refine (l1PickInt_any B c a len cap w6.heap.size 0 2 2 (fun m : Int => -1 ≤ m ∧ m ≤ 16385) _ (by omega) (by omega) (by omega) (by simp) (by simp; omega) cu7 el7).mono ?_; rintro e w8 ⟨v, rfl, hv, cu8, gr8⟩
      have gr08 := grownBy.trans gr06 (grownBy.trans g7 gr8)
      go_wp2_with fail
      exact bodyPost_ret (v := .tuple #[.int .i64 v, .int .i64 y', .int .i64 m]) (by simp [results, Try.results19, go_sem]) rfl ⟨_, _, _, rfl, cu8, gr08⟩

set_option maxRecDepth 100000 in
set_option maxHeartbeats 1600000 in
theorem drawMulMod_any (a : Option Addr) (len cap : Nat) (w : World) (hr : Row w.heap.size w a len) :
    Calls Try.prog 10 #[.slice a len cap] w fun e w' => ∃ x y m : Int, e = .returned (.tuple #[.int .i64 x, .int .i64 y, .int .i64 m]) ∧ Below w.heap.size w w' := by
  go_enter Try.func10, Try.ntmps10
  go_wp2_with fail
  refine (l1New_any a len cap w hr).mono ?_
  rintro e w1 ⟨rfl, cu1, be1, sz1⟩
  go_wp2_with fail
  refine (l8draw_any w.heap.size w.heap.size a len cap w1 be1.size cu1).mono ?_; rintro e w2 ⟨x, y, m, rfl, cu2, gr2⟩
  have be2 := be1.trans (below_of_grown gr2 (Nat.le_refl _) be1.size)
  go_wp2_with fail
  exact bodyPost_ret (v := .tuple #[.int .i64 x, .int .i64 y, .int .i64 m]) (by simp [results, Try.results10, go_sem]) rfl ⟨_, _, _, rfl, be2⟩
set_option maxRecDepth 100000 in
set_option maxHeartbeats 1600000 in
theorem drawPowMod_any (a : Option Addr) (len cap : Nat) (w : World) (hr : Row w.heap.size w a len) :
    Calls Try.prog 11 #[.slice a len cap] w fun e w' => ∃ x n m : Int, e = .returned (.tuple #[.int .i64 x, .int .i64 n, .int .i64 m]) ∧ Below w.heap.size w w' := by
  go_enter Try.func11, Try.ntmps11
  go_wp2_with fail
  refine (l1New_any a len cap w hr).mono ?_
  rintro e w1 ⟨rfl, cu1, be1, sz1⟩
  go_wp2_with fail
  refine (l8draw_any w.heap.size w.heap.size a len cap w1 be1.size cu1).mono ?_; rintro e w2 ⟨x, y, m, rfl, cu2, gr2⟩
  have be2 := be1.trans (below_of_grown gr2 (Nat.le_refl _) be1.size)
  have z2 := be2.size
  have hcs0 : w.heap.size < w2.heap.size := World.block_lt_of_cell? w2 ⟨w.heap.size, 0, none⟩ cu2.c0
  have g3 := grownBy.alloc (grownBy.refl w2 (some w.heap.size)) (.cells #[.int .i64 0, .int .i64 1, .int .i64 2, .int .i64 5, .int .i64 63, .int .i64 64, .int .i64 (-1)] 3)
  have cu3 := cu2.keep ((Below.refl w.heap.size w2).alloc (by omega) (.cells #[.int .i64 0, .int .i64 1, .int .i64 2, .int .i64 5, .int .i64 63, .int .i64 64, .int .i64 (-1)] 3)) (Below.heap_alloc _ _ _ (World.block_lt_of_cell? w2 ⟨w.heap.size, 0, none⟩ cu2.c0))
  have el3 := Elems.new (w := w2) (t := 3) (l := [0, 1, 2, 5, 63, 64, -1]) (P := fun m : Int => -1 ≤ m ∧ m ≤ 16385) _ rfl (by
    intro v hv
    simp only [List.mem_cons, List.not_mem_nil, or_false] at hv
    omega)
  clear cu2 gr2 cu1
  go_wp2_with fail
  refine (l1PickInt_any w.heap.size w.heap.size a len cap w2.heap.size 0 7 7 (fun m : Int => -1 ≤ m ∧ m ≤ 16385) _ (by omega) (by omega) (by omega) (by simp) (by simp; omega) cu3 el3).mono ?_; rintro e w4 ⟨v, rfl, hv, cu4, gr4⟩
  have be4 := be2.trans (below_of_grown (grownBy.trans g3 gr4) (by omega) be2.size)
  go_wp2_with fail
  exact bodyPost_ret (v := .tuple #[.int .i64 x, .int .i64 v, .int .i64 m]) (by simp [results, Try.results11, go_sem]) rfl ⟨_, _, _, rfl, be4⟩

theorem mul557 (w : World) : Calls Try.prog 7 #[.int .i64 5, .int .i64 5, .int .i64 7] w fun e w' => e = .returned (.tuple #[.int .i64 4, .bool true]) ∧ w = w' := mulMod_impl 5 5 7 w true 4 (Lib.hid rfl) (Lib.hid rfl)
theorem rest_facts {a b m : Int} (h1 : adm m a = true) (h2 : adm m b = true) : 0 ≤ a * b ∧ a * b ≤ 268435456 ∧ 0 ≤ a * b % m ∧ a * b % m < m ∧ m ≤ 16384 ∧ a * b % m ≤ a * b ∧ (a * b - a * b % m) % m = 0 := by
  obtain ⟨m0, a0, a1⟩ := adm_yes h1
  obtain ⟨-, b0, b1⟩ := adm_yes h2
  obtain ⟨p0, p1⟩ := mul_bd8 m0 a0 a1 b0 b1
  have hm : 0 < m := by omega
  have e := Int.emod_add_mul_ediv (a * b) m
  refine ⟨p0, p1, Int.emod_nonneg _ (by omega), Int.emod_lt_of_pos _ hm, m0, ?_, ?_⟩
  · have : 0 ≤ m * (a * b / m) := Int.mul_nonneg (by omega) (Int.ediv_nonneg p0 (by omega))
    omega
  · rw [show a * b - a * b % m = m * (a * b / m) from by omega]
    exact Int.mul_emod_right _ _
set_option maxRecDepth 100000 in
set_option maxHeartbeats 1600000 in
/-- The second half: powers are products. -/
theorem pow_step (x n k : Int) (hk : adm k x = true) (hn : expB n = true) (hz : ¬ n = 0) : adm k (powm x (n - 1) k) = true ∧ expB (n - 1) = true ∧ mulm (powm x (n - 1) k) x k = powm x n k := by
  obtain ⟨m0, a0, a1⟩ := adm_yes hk
  have hn' : 0 ≤ n ∧ n ≤ 63 := of_decide_eq_true hn
  have e1 : expB (n - 1) = true := decide_eq_true (by omega)
  obtain ⟨j, hj⟩ : ∃ j : Nat, n = (j : Int) + 1 := ⟨(n - 1).toNat, by omega⟩
  subst hj
  have e2 : powm x ((j : Int) + 1 - 1) k = pwm x k j := by unfold powm; rw [hk, e1]; simp
  have e3 : powm x ((j : Int) + 1) k = pwm x k (j + 1) := by
    unfold powm; rw [hk, hn]; simp only [Bool.and_self, if_true]
    congr 1
  have bd := pwm_bd x (show 0 < k by omega) j
  have e4 : adm k (pwm x k j) = true := decide_eq_true ⟨m0, bd.1, bd.2⟩
  rw [e2, e3]
  refine ⟨e4, e1, ?_⟩
  unfold mulm
  rw [e4, hk]
  simp only [Bool.and_self, if_true]
  exact pwm_succ a0 a1 j
set_option maxRecDepth 100000 in
set_option maxHeartbeats 6400000 in
theorem law_FnRests (a : Option Addr) (len cap : Nat) (w : World) (hr : Row w.heap.size w a len) :
    Calls Try.prog 5 #[.slice a len cap] w fun e w' => e = .returned (.bool true) ∧ Below w.heap.size w w' := by
  go_enter Try.func5, Try.ntmps5
  go_wp2_with fail
  refine (drawMulMod_any a len cap w hr).mono ?_; rintro e w1 ⟨x, y, m, rfl, be1⟩
  have hr1 : Row w1.heap.size w1 a len := Row.wide (hr.keep be1) be1.size
  obtain ⟨ok, hok⟩ : ∃ ok, ok = (adm m x && adm m y) := ⟨_, rfl⟩
  obtain ⟨r, hrr⟩ : ∃ r, r = mulm x y m := ⟨_, rfl⟩
  have Ho := Lib.hid hok
  have Hr := Lib.hid hrr
  clear hok hrr
  go_wp2_with fail
  refine (mulMod_impl x y m _ ok r Ho Hr).mono ?_; rintro e w2 ⟨rfl, rfl⟩
  go_wp2_with fail
  refine (mul557 _).mono ?_; rintro e w2 ⟨rfl, rfl⟩
  cases ok with
  | false =>
    have r0 : r = 0 := by rw [Hr.out]; unfold mulm; rw [← Ho.out]; rfl
    subst r0
    clear Hr Ho
    go_wp2_with fail
    refine (drawPowMod_any a len cap w1 hr1).mono ?_; rintro e w2 ⟨x, n, k, rfl, be2⟩
    have be := be1.trans (be2.mono be1.size)
    obtain ⟨ok2, hok2⟩ : ∃ ok, ok = (adm k x && expB n) := ⟨_, rfl⟩
    obtain ⟨p, hp⟩ : ∃ r, r = powm x n k := ⟨_, rfl⟩
    have Ho := Lib.hid hok2
    have Hr := Lib.hid hp
    clear hok2 hp
    go_wp2_with fail
    refine (powMod_impl x n k _ ok2 p Ho Hr).mono ?_; rintro e w3 ⟨rfl, rfl⟩
    have hok2 := Ho.out
    have hp := Hr.out
    cases ok2 with
    | false =>
      have p0 : p = 0 := by rw [hp]; unfold powm; rw [← hok2]; rfl
      subst p0
      clear hp hok2 Ho Hr
      go_wp2_with fail
      go_ret
      exact ⟨rfl, be⟩
    | true =>
      have h := hok2.symm
      rw [Bool.and_eq_true] at h
      by_cases hz : n = 0
      · subst hz
        have p1 : p = 1 % k := by rw [hp]; unfold powm; rw [← hok2]; exact pwm_zero x k
        have kb := adm_yes h.1
        have k0 : 0 < k := by omega
        have hpp : (p == 1 % k) = true := by simp [p1]
        clear hp hok2 p1 h Ho Hr
        go_wp2_with fail
        go_ret
        exact ⟨rfl, be⟩
      · obtain ⟨s1, s2, s3⟩ := pow_step x n k h.1 h.2 hz
        have hnb : 0 ≤ n ∧ n ≤ 63 := of_decide_eq_true h.2
        obtain ⟨q, hq⟩ : ∃ q, q = powm x (n - 1) k := ⟨_, rfl⟩
        have H1 := Lib.hid fun w => powMod_impl x (n - 1) k w true q (Lib.hid (by rw [h.1, s2]; rfl)) (Lib.hid hq)
        rw [← hq] at s1 s3
        have H2 := Lib.hid fun w => mulMod_impl q x k w true p (Lib.hid (by rw [h.1, s1]; rfl)) (Lib.hid (by rw [hp, s3]))
        have hpp : (p == p) = true := by simp
        clear hp hok2 h s1 s2 s3 hq Ho Hr
        go_wp2_with fail
        refine (H1.out _).mono ?_; rintro e w4 ⟨rfl, rfl⟩
        go_wp2_with fail
        refine (H2.out _).mono ?_; rintro e w4 ⟨rfl, rfl⟩
        go_wp2_with fail
        go_ret
        exact ⟨rfl, be⟩
  | true =>
    have h := Ho.out.symm
    rw [Bool.and_eq_true] at h
    have r1 : r = x * y % m := by rw [Hr.out]; unfold mulm; rw [← Ho.out]; rfl
    obtain ⟨p0, p1, p2, p3, p4, p5, p6⟩ := rest_facts h.1 h.2
    rw [← r1] at p2 p3 p5 p6
    clear r1 Hr Ho h
    have q1 : ¬ r < 0 := by omega
    have q2 : ¬ m ≤ r := by omega
    have q3 : 0 ≤ x * y - r := by omega
    have q4 : x * y - r ≤ 268435456 := by omega
    have q5 : (x * y - r).tmod m = 0 := by rw [Int.tmod_eq_emod_of_nonneg q3]; exact p6
    go_wp2_with fail
    refine (drawPowMod_any a len cap w1 hr1).mono ?_; rintro e w2 ⟨x, n, k, rfl, be2⟩
    have be := be1.trans (be2.mono be1.size)
    obtain ⟨ok2, hok2⟩ : ∃ ok, ok = (adm k x && expB n) := ⟨_, rfl⟩
    obtain ⟨p, hp⟩ : ∃ r, r = powm x n k := ⟨_, rfl⟩
    have Ho := Lib.hid hok2
    have Hr := Lib.hid hp
    clear hok2 hp
    go_wp2_with fail
    refine (powMod_impl x n k _ ok2 p Ho Hr).mono ?_; rintro e w3 ⟨rfl, rfl⟩
    have hok2 := Ho.out
    have hp := Hr.out
    cases ok2 with
    | false =>
      have p0 : p = 0 := by rw [hp]; unfold powm; rw [← hok2]; rfl
      subst p0
      clear hp hok2 Ho Hr
      go_wp2_with fail
      go_ret
      exact ⟨rfl, be⟩
    | true =>
      have h := hok2.symm
      rw [Bool.and_eq_true] at h
      by_cases hz : n = 0
      · subst hz
        have p1 : p = 1 % k := by rw [hp]; unfold powm; rw [← hok2]; exact pwm_zero x k
        have kb := adm_yes h.1
        have k0 : 0 < k := by omega
        have hpp : (p == 1 % k) = true := by simp [p1]
        clear hp hok2 p1 h Ho Hr
        go_wp2_with fail
        go_ret
        exact ⟨rfl, be⟩
      · obtain ⟨s1, s2, s3⟩ := pow_step x n k h.1 h.2 hz
        have hnb : 0 ≤ n ∧ n ≤ 63 := of_decide_eq_true h.2
        obtain ⟨q, hq⟩ : ∃ q, q = powm x (n - 1) k := ⟨_, rfl⟩
        have H1 := Lib.hid fun w => powMod_impl x (n - 1) k w true q (Lib.hid (by rw [h.1, s2]; rfl)) (Lib.hid hq)
        rw [← hq] at s1 s3
        have H2 := Lib.hid fun w => mulMod_impl q x k w true p (Lib.hid (by rw [h.1, s1]; rfl)) (Lib.hid (by rw [hp, s3]))
        have hpp : (p == p) = true := by simp
        clear hp hok2 h s1 s2 s3 hq Ho Hr
        go_wp2_with fail
        refine (H1.out _).mono ?_; rintro e w4 ⟨rfl, rfl⟩
        go_wp2_with fail
        refine (H2.out _).mono ?_; rintro e w4 ⟨rfl, rfl⟩
        go_wp2_with fail
        go_ret
        exact ⟨rfl, be⟩
end Go.Proofs.Ytbmpdippiafjiaa.L
