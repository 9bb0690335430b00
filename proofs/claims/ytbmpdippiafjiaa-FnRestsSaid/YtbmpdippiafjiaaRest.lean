/- Remainders of products and powers: the program's and the model's. -/
import Derived.Test.YtbmpdippiafjiaaB1
import Derived.Lib.RabinKarpLaws
namespace Go.Proofs.Ytbmpdippiafjiaa.L
open Go.RowKit Go.Proofs.Ytbmpdippiafjiaa.S
set_option linter.unusedVariables false
set_option linter.unusedSimpArgs false

def adm (m a : Int) : Bool := decide (m ≤ 16384 ∧ 0 ≤ a ∧ a < m)
theorem adm_yes {m a : Int} (h : adm m a = true) : m ≤ 16384 ∧ 0 ≤ a ∧ a < m := of_decide_eq_true h
theorem adm_no {m a : Int} (h : adm m a = false) : ¬ (m ≤ 16384 ∧ 0 ≤ a ∧ a < m) := of_decide_eq_false h
def pwm (a m : Int) (n : Nat) : Int := a ^ n % m
theorem pwm_zero (a m : Int) : pwm a m 0 = 1 % m := by unfold pwm; rw [Int.pow_zero]
theorem pwm_add (a m : Int) (k l : Nat) : pwm a m k * pwm a m l % m = pwm a m (k + l) := by
  unfold pwm
  rw [← Int.mul_emod, ← Int.pow_add]
theorem pwm_succ {a m : Int} (h0 : 0 ≤ a) (h1 : a < m) (k : Nat) : pwm a m k * a % m = pwm a m (k + 1) := by
  have e : pwm a m 1 = a := by unfold pwm; rw [Int.pow_succ, Int.pow_zero, Int.one_mul]; exact Int.emod_eq_of_lt h0 h1
  have := pwm_add a m k 1
  rw [e] at this
  exact this
theorem pwm_bd (a : Int) {m : Int} (h : 0 < m) (k : Nat) : 0 ≤ pwm a m k ∧ pwm a m k < m := ⟨Int.emod_nonneg _ (by omega), Int.emod_lt_of_pos _ h⟩
theorem mul_bd8 {a b m : Int} (hm : m ≤ 16384) (a0 : 0 ≤ a) (a1 : a < m) (b0 : 0 ≤ b) (b1 : b < m) : 0 ≤ a * b ∧ a * b ≤ 268435456 := by
  refine ⟨Int.mul_nonneg a0 b0, ?_⟩
  have h1 : a * b ≤ 16384 * b := Int.mul_le_mul_of_nonneg_right (by omega) b0
  omega
def mulm (a b m : Int) : Int := if (adm m a && adm m b) = true then a * b % m else 0
def expB (n : Int) : Bool := decide (0 ≤ n ∧ n ≤ 63)
def powm (a n m : Int) : Int := if (adm m a && expB n) = true then pwm a m n.toNat else 0

theorem admits_any (m a : Int) (w : World) : Calls Try.prog 13 #[.int .i64 m, .int .i64 a] w fun e w' => e = .returned (.bool (adm m a)) ∧ w = w' := by
  by_cases h1 : m ≤ 16384
  · by_cases h2 : 0 ≤ a
    · go_enter Try.func13, Try.ntmps13
      go_wp2_with fail
      go_ret
      exact ⟨ret_bool (by unfold adm; simp [h1, h2] <;> omega), rfl⟩
    · go_enter Try.func13, Try.ntmps13
      go_wp2_with fail
      go_ret
      exact ⟨ret_bool (by unfold adm; simp [h1, h2] <;> omega), rfl⟩
  · go_enter Try.func13, Try.ntmps13
    go_wp2_with fail
    go_ret
    exact ⟨ret_bool (by unfold adm; simp [h1] <;> omega), rfl⟩
theorem below_any (a m : Int) (w : World) : Calls Try.prog 12 #[.int .i64 a, .int .i64 m] w fun e w' => e = .returned (.bool (adm m a)) ∧ w = w' := by
  by_cases h1 : 0 ≤ a
  · by_cases h2 : a < m
    · go_enter Try.func12, Try.ntmps12
      go_wp2_with fail
      go_ret
      exact ⟨ret_bool (by unfold adm; simp [h1, h2] <;> omega), rfl⟩
    · go_enter Try.func12, Try.ntmps12
      go_wp2_with fail
      go_ret
      exact ⟨ret_bool (by unfold adm; simp [h1, h2] <;> omega), rfl⟩
  · go_enter Try.func12, Try.ntmps12
    go_wp2_with fail
    go_ret
    exact ⟨ret_bool (by unfold adm; simp [h1] <;> omega), rfl⟩
theorem timesM_any (m a b : Int) (w : World) (hm : m ≤ 16384) (a0 : 0 ≤ a) (a1 : a < m) (b0 : 0 ≤ b) (b1 : b < m) : Calls Try.prog 14 #[.int .i64 m, .int .i64 a, .int .i64 b] w fun e w' => e = .returned (.int .i64 (a * b % m)) ∧ w = w' := by
  obtain ⟨p0, p1⟩ := mul_bd8 hm a0 a1 b0 b1
  go_enter Try.func14, Try.ntmps14
  go_wp2_with fail
  go_ret
  exact ⟨rfl, rfl⟩
theorem oneM_any (m : Int) (w : World) (hm : 0 < m) : Calls Try.prog 18 #[.int .i64 m] w fun e w' => e = .returned (.int .i64 (1 % m)) ∧ w = w' := by
  go_enter Try.func18, Try.ntmps18
  go_wp2_with fail
  go_ret
  exact ⟨rfl, rfl⟩
theorem isExp_any (n : Int) (w : World) : Calls Try.prog 16 #[.int .i64 n] w fun e w' => e = .returned (.bool (expB n)) ∧ w = w' := by
  by_cases h1 : 0 ≤ n
  · go_enter Try.func16, Try.ntmps16
    go_wp2_with fail
    go_ret
    exact ⟨ret_bool (by unfold expB; simp [h1] <;> omega), rfl⟩
  · go_enter Try.func16, Try.ntmps16
    go_wp2_with fail
    go_ret
    exact ⟨ret_bool (by unfold expB; simp [h1] <;> omega), rfl⟩
theorem mulMod_impl (a b m : Int) (w : World) (ok : Bool) (r : Int) (Ho : Hid (ok = (adm m a && adm m b))) (Hr : Hid (r = mulm a b m)) : Calls Try.prog 7 #[.int .i64 a, .int .i64 b, .int .i64 m] w fun e w' => e = .returned (.tuple #[.int .i64 r, .bool ok]) ∧ w = w' := by
  cases h1 : adm m a with
  | false =>
    have e1 : ok = false := by rw [Ho.out, h1]; rfl
    have e2 : r = 0 := by rw [Hr.out]; unfold mulm; rw [h1]; rfl
    subst e1 e2
    have HA := Lib.hid (admits_any m a)
    rw [h1] at HA
    clear h1 Ho Hr
    go_enter Try.func7, Try.ntmps7
    go_wp2_with fail
    refine (HA.out _).mono ?_; rintro e w1 ⟨rfl, rfl⟩
    go_wp2_with fail
    exact bodyPost_ret (v := .tuple #[.int .i64 0, .bool false]) (by simp [results, Try.results7, go_sem]) rfl ⟨rfl, rfl⟩
  | true =>
    cases h2 : adm m b with
    | false =>
      have e1 : ok = false := by rw [Ho.out, h1, h2]; rfl
      have e2 : r = 0 := by rw [Hr.out]; unfold mulm; rw [h1, h2]; rfl
      subst e1 e2
      have HA := admits_any m a
      rw [h1] at HA
      have HB := admits_any m b
      rw [h2] at HB
      have HA' := Lib.hid HA
      have HB' := Lib.hid HB
      clear h1 h2 Ho Hr HA HB
      go_enter Try.func7, Try.ntmps7
      go_wp2_with fail
      refine (HA'.out _).mono ?_; rintro e w1 ⟨rfl, rfl⟩
      go_wp2_with fail
      refine (HB'.out _).mono ?_; rintro e w1 ⟨rfl, rfl⟩
      go_wp2_with fail
      exact bodyPost_ret (v := .tuple #[.int .i64 0, .bool false]) (by simp [results, Try.results7, go_sem]) rfl ⟨rfl, rfl⟩
    | true =>
      have e1 : ok = true := by rw [Ho.out, h1, h2]; rfl
      have e2 : r = a * b % m := by rw [Hr.out]; unfold mulm; rw [h1, h2]; rfl
      obtain ⟨m0, a0, a1⟩ := adm_yes h1
      obtain ⟨-, b0, b1⟩ := adm_yes h2
      subst e1 e2
      have HA := admits_any m a
      rw [h1] at HA
      have HB := admits_any m b
      rw [h2] at HB
      have HA' := Lib.hid HA
      have HB' := Lib.hid HB
      clear h1 h2 Ho Hr HA HB
      go_enter Try.func7, Try.ntmps7
      go_wp2_with fail
      refine (HA'.out _).mono ?_; rintro e w1 ⟨rfl, rfl⟩
      go_wp2_with fail
      refine (HB'.out _).mono ?_; rintro e w1 ⟨rfl, rfl⟩
      go_wp2_with fail
      refine (timesM_any m a b _ m0 a0 a1 b0 b1).mono ?_; rintro e w1 ⟨rfl, rfl⟩
      go_wp2_with fail
      exact bodyPost_ret (v := .tuple #[.int .i64 (a * b % m), .bool true]) (by simp [results, Try.results7, go_sem]) rfl ⟨rfl, rfl⟩
theorem mulMod_spec (a b m : Int) (w : World) (ok : Bool) (r : Int) (Ho : Hid (ok = (adm m a && adm m b))) (Hr : Hid (r = mulm a b m)) : Calls Try.prog 6 #[.int .i64 a, .int .i64 b, .int .i64 m] w fun e w' => e = .returned (.tuple #[.int .i64 r, .bool ok]) ∧ w = w' := by
  cases h1 : adm m a with
  | false =>
    have e1 : ok = false := by rw [Ho.out, h1]; rfl
    have e2 : r = 0 := by rw [Hr.out]; unfold mulm; rw [h1]; rfl
    subst e1 e2
    have HA := Lib.hid (below_any a m)
    rw [h1] at HA
    clear h1 Ho Hr
    go_enter Try.func6, Try.ntmps6
    go_wp2_with fail
    refine (HA.out _).mono ?_; rintro e w1 ⟨rfl, rfl⟩
    go_wp2_with fail
    exact bodyPost_ret (v := .tuple #[.int .i64 0, .bool false]) (by simp [results, Try.results6, go_sem]) rfl ⟨rfl, rfl⟩
  | true =>
    cases h2 : adm m b with
    | false =>
      have e1 : ok = false := by rw [Ho.out, h1, h2]; rfl
      have e2 : r = 0 := by rw [Hr.out]; unfold mulm; rw [h1, h2]; rfl
      subst e1 e2
      have HA := below_any a m
      rw [h1] at HA
      have HB := below_any b m
      rw [h2] at HB
      have HA' := Lib.hid HA
      have HB' := Lib.hid HB
      clear h1 h2 Ho Hr HA HB
      go_enter Try.func6, Try.ntmps6
      go_wp2_with fail
      refine (HA'.out _).mono ?_; rintro e w1 ⟨rfl, rfl⟩
      go_wp2_with fail
      refine (HB'.out _).mono ?_; rintro e w1 ⟨rfl, rfl⟩
      go_wp2_with fail
      exact bodyPost_ret (v := .tuple #[.int .i64 0, .bool false]) (by simp [results, Try.results6, go_sem]) rfl ⟨rfl, rfl⟩
    | true =>
      have e1 : ok = true := by rw [Ho.out, h1, h2]; rfl
      have e2 : r = a * b % m := by rw [Hr.out]; unfold mulm; rw [h1, h2]; rfl
      obtain ⟨m0, a0, a1⟩ := adm_yes h1
      obtain ⟨-, b0, b1⟩ := adm_yes h2
      obtain ⟨p0, p1⟩ := mul_bd8 m0 a0 a1 b0 b1
      subst e1 e2
      have HA := below_any a m
      rw [h1] at HA
      have HB := below_any b m
      rw [h2] at HB
      have HA' := Lib.hid HA
      have HB' := Lib.hid HB
      clear h1 h2 Ho Hr HA HB
      go_enter Try.func6, Try.ntmps6
      go_wp2_with fail
      refine (HA'.out _).mono ?_; rintro e w1 ⟨rfl, rfl⟩
      go_wp2_with fail
      refine (HB'.out _).mono ?_; rintro e w1 ⟨rfl, rfl⟩
      go_wp2_with fail
      exact bodyPost_ret (v := .tuple #[.int .i64 (a * b % m), .bool true]) (by simp [results, Try.results6, go_sem]) rfl ⟨rfl, rfl⟩
theorem bit_one8 {a : Int} (h0 : 0 ≤ a) (h1 : a < 9223372036854775808) : bits BinOp.and IntKind.i64 a 1 = a % 2 := by
  obtain ⟨n, rfl⟩ : ∃ n : Nat, a = (n : Int) := ⟨a.toNat, by omega⟩
  have h := Go.Proofs.and_one n (by omega)
  omega
theorem shl_facts (n j : Nat) (hn : n ≤ 63) : (0 : Int) ≤ (n : Int) / 2 ^ j ∧ (n : Int) / 2 ^ j ≤ 63 := ⟨Int.ediv_nonneg (by omega) (Int.le_of_lt (Int.pow_pos (by omega))), by have := Int.ediv_le_self ((2 : Int) ^ j) (show (0 : Int) ≤ (n : Int) by omega); omega⟩
/-- What a round of squarings does: from the bits above j to those from j on. -/
theorem pw_round {a m : Int} (h0 : 0 ≤ a) (h1 : a < m) (n j : Nat) :
    (n / 2 ^ j % 2 = 1 → pwm a m (n / 2 ^ (j + 1)) * pwm a m (n / 2 ^ (j + 1)) % m * a % m = pwm a m (n / 2 ^ j)) ∧
    (n / 2 ^ j % 2 = 0 → pwm a m (n / 2 ^ (j + 1)) * pwm a m (n / 2 ^ (j + 1)) % m = pwm a m (n / 2 ^ j)) := by
  have e : n / 2 ^ (j + 1) = n / 2 ^ j / 2 := by rw [Nat.pow_succ, Nat.div_div_eq_div_mul]
  rw [e]
  generalize n / 2 ^ j = q
  rw [pwm_add]
  refine ⟨fun h => ?_, fun h => ?_⟩
  · rw [pwm_succ h0 h1]; congr 1; omega
  · congr 1; omega
theorem mod_bd {a b m : Int} (hm : 0 < m) : 0 ≤ a * b % m ∧ a * b % m < m := ⟨Int.emod_nonneg _ (by omega), Int.emod_lt_of_pos _ hm⟩

set_option maxRecDepth 100000 in
set_option maxHeartbeats 1600000 in
theorem pow_spec (a m : Int) (n : Nat) (w : World) (hm : m ≤ 16384) (a0 : 0 ≤ a) (a1 : a < m) (hn : n ≤ 63) : Calls Try.prog 15 #[.int .i64 a, .int .i64 n, .int .i64 m] w fun e w' => e = .returned (.int .i64 (pwm a m n)) ∧ w = w' := by
  have hm0 : 0 < m := by omega
  go_enter Try.func15, Try.ntmps15
  go_wp2_with fail
  go_loop [7, 8] (fun x y => ∃ (j : Nat) (k r : Int), j ≤ 6 ∧ (j : Int) = k + 1 ∧ r = pwm a m (n / 2 ^ j) ∧ x = .int .i64 r ∧ y = .int .i64 k) (fun _ y => (intOf y + 1).toNat)
  case atStart => exact ⟨6, 5, _, by omega, rfl, by rw [Nat.div_eq_of_lt (by omega), pwm_zero], rfl, rfl⟩
  case round =>
    obtain ⟨j, k, r, hj, hk, hr, rfl, rfl⟩ := hrel
    by_cases h : 0 ≤ k
    · obtain ⟨i, rfl⟩ := Int.eq_ofNat_of_zero_le h
      obtain rfl : j = i + 1 := by omega
      obtain ⟨q1, q2⟩ := pw_round a0 a1 n i
      rw [← hr] at q1 q2
      have hr0 : 0 ≤ r ∧ r < m := by rw [hr]; exact pwm_bd a hm0 _
      obtain ⟨p0, p1⟩ := mul_bd8 hm hr0.1 hr0.2 hr0.1 hr0.2
      have r1 := mod_bd (a := r) (b := r) hm0
      obtain ⟨p2, p3⟩ := mul_bd8 hm r1.1 r1.2 a0 a1
      have r2 := mod_bd (a := r * r % m) (b := a) hm0
      obtain ⟨s0, s1⟩ := shl_facts n i hn
      have hb := bit_one8 s0 (by omega)
      have ec : (n : Int) / 2 ^ i % 2 = ((n / 2 ^ i % 2 : Nat) : Int) := by rw [Int.natCast_emod, Int.natCast_ediv, Int.natCast_pow]; rfl
      rw [ec] at hb
      clear hr hk
      by_cases hq : n / 2 ^ i % 2 = 1
      · have Q := Lib.hid (q1 hq)
        have hc : (bits BinOp.and IntKind.i64 ((n : Int) / 2 ^ i) 1 == 1) = true := by rw [hb]; simp <;> omega
        clear q1 q2 hq hb ec
        go_wp2_with fail
        go_round
        case rel => exact ⟨i, _, _, by omega, by go_num, Q.out, rfl, rfl⟩
        case measure => simp [intOf] <;> omega
      · have Q := Lib.hid (q2 (by omega))
        have hc : (bits BinOp.and IntKind.i64 ((n : Int) / 2 ^ i) 1 == 1) = false := by rw [hb]; simp <;> omega
        clear q1 q2 hq hb ec
        go_wp2_with fail
        go_round
        case rel => exact ⟨i, _, _, by omega, by go_num, Q.out, rfl, rfl⟩
        case measure => simp [intOf] <;> omega
    · obtain rfl : k = -1 := by omega
      obtain rfl : j = 0 := by omega
      rw [Nat.pow_zero, Nat.div_one] at hr
      have Q := Lib.hid hr
      clear hr
      go_wp2_with fail
      go_ret
      exact ⟨ret_int Q.out, rfl⟩

set_option maxRecDepth 100000 in
set_option maxHeartbeats 1600000 in
theorem powBy_any (a m : Int) (n : Nat) (w : World) (hm : m ≤ 16384) (a0 : 0 ≤ a) (a1 : a < m) (hn : n ≤ 63) : Calls Try.prog 17 #[.func (.func 14) #[.int .i64 m] #[], .int .i64 (1 % m), .int .i64 a, .int .i64 n] w fun e w' => e = .returned (.int .i64 (pwm a m n)) ∧ w = w' := by
  have hm0 : 0 < m := by omega
  have HT := Lib.hid fun (x y : Int) (x0 : 0 ≤ x) (x1 : x < m) (y0 : 0 ≤ y) (y1 : y < m) (w : World) => timesM_any m x y w hm x0 x1 y0 y1
  go_enter Try.func17, Try.ntmps17
  go_wp2_with fail
  go_loop [9, 10] (fun x y => ∃ (j : Nat) (k r : Int), j ≤ 6 ∧ (j : Int) = k + 1 ∧ r = pwm a m (n / 2 ^ j) ∧ x = .int .i64 r ∧ y = .int .i64 k) (fun _ y => (intOf y + 1).toNat)
  case atStart => exact ⟨6, 5, _, by omega, rfl, by rw [Nat.div_eq_of_lt (by omega), pwm_zero], rfl, rfl⟩
  case round =>
    obtain ⟨j, k, r, hj, hk, hr, rfl, rfl⟩ := hrel
    by_cases h : 0 ≤ k
    · obtain ⟨i, rfl⟩ := Int.eq_ofNat_of_zero_le h
      obtain rfl : j = i + 1 := by omega
      obtain ⟨q1, q2⟩ := pw_round a0 a1 n i
      rw [← hr] at q1 q2
      have hr0 : 0 ≤ r ∧ r < m := by rw [hr]; exact pwm_bd a hm0 _
      have r1 := mod_bd (a := r) (b := r) hm0
      have H1 := Lib.hid (HT.out r r hr0.1 hr0.2 hr0.1 hr0.2)
      have H2 := Lib.hid (HT.out (r * r % m) a r1.1 r1.2 a0 a1)
      obtain ⟨s0, s1⟩ := shl_facts n i hn
      have hb := bit_one8 s0 (by omega)
      have ec : (n : Int) / 2 ^ i % 2 = ((n / 2 ^ i % 2 : Nat) : Int) := by rw [Int.natCast_emod, Int.natCast_ediv, Int.natCast_pow]; rfl
      rw [ec] at hb
      clear hr hk
      by_cases hq : n / 2 ^ i % 2 = 1
      · have Q := Lib.hid (q1 hq)
        have hc : (bits BinOp.and IntKind.i64 ((n : Int) / 2 ^ i) 1 == 1) = true := by rw [hb]; simp <;> omega
        clear q1 q2 hq hb ec
        go_wp2_with fail
        refine (H1.out _).mono ?_; rintro e w1 ⟨rfl, rfl⟩
        go_wp2_with fail
        refine (H2.out _).mono ?_; rintro e w1 ⟨rfl, rfl⟩
        go_wp2_with fail
        go_round
        case rel => exact ⟨i, _, _, by omega, by go_num, Q.out, rfl, rfl⟩
        case measure => simp [intOf] <;> omega
      · have Q := Lib.hid (q2 (by omega))
        have hc : (bits BinOp.and IntKind.i64 ((n : Int) / 2 ^ i) 1 == 1) = false := by rw [hb]; simp <;> omega
        clear q1 q2 hq hb ec
        go_wp2_with fail
        refine (H1.out _).mono ?_; rintro e w1 ⟨rfl, rfl⟩
        go_wp2_with fail
        go_round
        case rel => exact ⟨i, _, _, by omega, by go_num, Q.out, rfl, rfl⟩
        case measure => simp [intOf] <;> omega
    · obtain rfl : k = -1 := by omega
      obtain rfl : j = 0 := by omega
      rw [Nat.pow_zero, Nat.div_one] at hr
      have Q := Lib.hid hr
      clear hr
      go_wp2_with fail
      go_ret
      exact ⟨ret_int Q.out, rfl⟩
set_option maxRecDepth 100000 in
theorem powMod_impl (a n m : Int) (w : World) (ok : Bool) (r : Int) (Ho : Hid (ok = (adm m a && expB n))) (Hr : Hid (r = powm a n m)) : Calls Try.prog 9 #[.int .i64 a, .int .i64 n, .int .i64 m] w fun e w' => e = .returned (.tuple #[.int .i64 r, .bool ok]) ∧ w = w' := by
  have HA := admits_any m a
  have HB := isExp_any n
  cases h1 : adm m a with
  | false =>
    have e1 : ok = false := by rw [Ho.out, h1]; rfl
    have e2 : r = 0 := by rw [Hr.out]; unfold powm; rw [h1]; rfl
    subst e1 e2
    rw [h1] at HA
    have HA' := Lib.hid HA
    clear h1 Ho Hr HA HB
    go_enter Try.func9, Try.ntmps9
    go_wp2_with fail
    refine (HA'.out _).mono ?_; rintro e w1 ⟨rfl, rfl⟩
    go_wp2_with fail
    exact bodyPost_ret (v := .tuple #[.int .i64 0, .bool false]) (by simp [results, Try.results9, go_sem]) rfl ⟨rfl, rfl⟩
  | true =>
    rw [h1] at HA
    have HA' := Lib.hid HA
    cases h2 : expB n with
    | false =>
      have e1 : ok = false := by rw [Ho.out, h1, h2]; rfl
      have e2 : r = 0 := by rw [Hr.out]; unfold powm; rw [h1, h2]; rfl
      subst e1 e2
      rw [h2] at HB
      have HB' := Lib.hid HB
      clear h1 h2 Ho Hr HA HB
      go_enter Try.func9, Try.ntmps9
      go_wp2_with fail
      refine (HA'.out _).mono ?_; rintro e w1 ⟨rfl, rfl⟩
      go_wp2_with fail
      refine (HB'.out _).mono ?_; rintro e w1 ⟨rfl, rfl⟩
      go_wp2_with fail
      exact bodyPost_ret (v := .tuple #[.int .i64 0, .bool false]) (by simp [results, Try.results9, go_sem]) rfl ⟨rfl, rfl⟩
    | true =>
      have e1 : ok = true := by rw [Ho.out, h1, h2]; rfl
      have e2 : r = pwm a m n.toNat := by rw [Hr.out]; unfold powm; rw [h1, h2]; rfl
      obtain ⟨m0, a0, a1⟩ := adm_yes h1
      have hn : 0 ≤ n ∧ n ≤ 63 := of_decide_eq_true h2
      subst e1 e2
      rw [h2] at HB
      have HB' := Lib.hid HB
      obtain ⟨k, rfl⟩ := Int.eq_ofNat_of_zero_le hn.1
      have HP := Lib.hid (fun w => powBy_any a m k w m0 a0 a1 (by omega))
      have HO := Lib.hid (fun w => oneM_any m w (by omega))
      have hmf : ∀ (fn : Fn) (first cap : Array Value) (w : World), (Instr.makeFunc fn first cap).run Try.prog w = .ok (.func fn first cap) w := fun _ _ _ _ => rfl
      clear h1 h2 Ho Hr HA HB
      go_enter Try.func9, Try.ntmps9
      go_wp2_with fail
      refine (HA'.out _).mono ?_; rintro e w1 ⟨rfl, rfl⟩
      go_wp2_with fail
      refine (HB'.out _).mono ?_; rintro e w1 ⟨rfl, rfl⟩
      go_wp2_with fail
      refine (HO.out _).mono ?_; rintro e w1 ⟨rfl, rfl⟩
      go_wp2_with fail
      refine (HP.out _).mono ?_; rintro e w1 ⟨rfl, rfl⟩
      go_wp2_with fail
      exact bodyPost_ret (v := .tuple #[.int .i64 (pwm a m k), .bool true]) (by simp [results, Try.results9, go_sem]) rfl ⟨rfl, rfl⟩
set_option maxRecDepth 100000 in
theorem powMod_spec (a n m : Int) (w : World) (ok : Bool) (r : Int) (Ho : Hid (ok = (adm m a && expB n))) (Hr : Hid (r = powm a n m)) : Calls Try.prog 8 #[.int .i64 a, .int .i64 n, .int .i64 m] w fun e w' => e = .returned (.tuple #[.int .i64 r, .bool ok]) ∧ w = w' := by
  have HA := below_any a m
  cases h1 : adm m a with
  | false =>
    have e1 : ok = false := by rw [Ho.out, h1]; rfl
    have e2 : r = 0 := by rw [Hr.out]; unfold powm; rw [h1]; rfl
    subst e1 e2
    rw [h1] at HA
    have HA' := Lib.hid HA
    clear h1 Ho Hr HA
    go_enter Try.func8, Try.ntmps8
    go_wp2_with fail
    refine (HA'.out _).mono ?_; rintro e w1 ⟨rfl, rfl⟩
    go_wp2_with fail
    exact bodyPost_ret (v := .tuple #[.int .i64 0, .bool false]) (by simp [results, Try.results8, go_sem]) rfl ⟨rfl, rfl⟩
  | true =>
    rw [h1] at HA
    have HA' := Lib.hid HA
    by_cases hn0 : n < 0
    · have h2 : expB n = false := decide_eq_false (by omega)
      have e1 : ok = false := by rw [Ho.out, h1, h2]; rfl
      have e2 : r = 0 := by rw [Hr.out]; unfold powm; rw [h1, h2]; rfl
      subst e1 e2
      clear h1 h2 Ho Hr HA
      go_enter Try.func8, Try.ntmps8
      go_wp2_with fail
      refine (HA'.out _).mono ?_; rintro e w1 ⟨rfl, rfl⟩
      go_wp2_with fail
      exact bodyPost_ret (v := .tuple #[.int .i64 0, .bool false]) (by simp [results, Try.results8, go_sem]) rfl ⟨rfl, rfl⟩
    by_cases hn1 : 63 < n
    · have h2 : expB n = false := decide_eq_false (by omega)
      have e1 : ok = false := by rw [Ho.out, h1, h2]; rfl
      have e2 : r = 0 := by rw [Hr.out]; unfold powm; rw [h1, h2]; rfl
      subst e1 e2
      clear h1 h2 Ho Hr HA
      go_enter Try.func8, Try.ntmps8
      go_wp2_with fail
      refine (HA'.out _).mono ?_; rintro e w1 ⟨rfl, rfl⟩
      go_wp2_with fail
      exact bodyPost_ret (v := .tuple #[.int .i64 0, .bool false]) (by simp [results, Try.results8, go_sem]) rfl ⟨rfl, rfl⟩
    have h2 : expB n = true := decide_eq_true (by omega)
    have e1 : ok = true := by rw [Ho.out, h1, h2]; rfl
    have e2 : r = pwm a m n.toNat := by rw [Hr.out]; unfold powm; rw [h1, h2]; rfl
    obtain ⟨m0, a0, a1⟩ := adm_yes h1
    subst e1 e2
    obtain ⟨k, rfl⟩ := Int.eq_ofNat_of_zero_le (show 0 ≤ n by omega)
    have HP := Lib.hid (fun w => pow_spec a m k w m0 a0 a1 (by omega))
    clear h1 h2 Ho Hr HA
    go_enter Try.func8, Try.ntmps8
    go_wp2_with fail
    refine (HA'.out _).mono ?_; rintro e w1 ⟨rfl, rfl⟩
    go_wp2_with fail
    refine (HP.out _).mono ?_; rintro e w1 ⟨rfl, rfl⟩
    go_wp2_with fail
    exact bodyPost_ret (v := .tuple #[.int .i64 (pwm a m k), .bool true]) (by simp [results, Try.results8, go_sem]) rfl ⟨rfl, rfl⟩

set_option maxRecDepth 100000 in
theorem law_FnExactMulMod (a b m : Int) (w : World) : Calls Try.prog 3 #[.int .i64 a, .int .i64 b, .int .i64 m] w fun e w' => e = .returned (.bool true) ∧ Below w.heap.size w w' := by
  obtain ⟨ok, hok⟩ : ∃ ok, ok = (adm m a && adm m b) := ⟨_, rfl⟩
  obtain ⟨r, hr⟩ : ∃ r, r = mulm a b m := ⟨_, rfl⟩
  have Ho := Lib.hid hok
  have Hr := Lib.hid hr
  clear hok hr
  go_enter Try.func3, Try.ntmps3
  go_wp2_with fail
  refine (mulMod_spec a b m _ ok r Ho Hr).mono ?_; rintro e w1 ⟨rfl, rfl⟩
  go_wp2_with fail
  refine (mulMod_impl a b m _ ok r Ho Hr).mono ?_; rintro e w1 ⟨rfl, rfl⟩
  clear Ho Hr
  have e1 : (r != r) = false := by simp
  have e2 : (ok != ok) = false := by simp
  go_wp2_with fail
  go_ret
  exact ⟨rfl, Below.refl _ _⟩
set_option maxRecDepth 100000 in
theorem law_FnExactPowMod (a n m : Int) (w : World) : Calls Try.prog 4 #[.int .i64 a, .int .i64 n, .int .i64 m] w fun e w' => e = .returned (.bool true) ∧ Below w.heap.size w w' := by
  obtain ⟨ok, hok⟩ : ∃ ok, ok = (adm m a && expB n) := ⟨_, rfl⟩
  obtain ⟨r, hr⟩ : ∃ r, r = powm a n m := ⟨_, rfl⟩
  have Ho := Lib.hid hok
  have Hr := Lib.hid hr
  clear hok hr
  go_enter Try.func4, Try.ntmps4
  go_wp2_with fail
  refine (powMod_spec a n m _ ok r Ho Hr).mono ?_; rintro e w1 ⟨rfl, rfl⟩
  go_wp2_with fail
  refine (powMod_impl a n m _ ok r Ho Hr).mono ?_; rintro e w1 ⟨rfl, rfl⟩
  clear Ho Hr
  have e1 : (r != r) = false := by simp
  have e2 : (ok != ok) = false := by simp
  go_wp2_with fail
  go_ret
  exact ⟨rfl, Below.refl _ _⟩
end Go.Proofs.Ytbmpdippiafjiaa.L
