/- B1: Math Field Ints Slices Terms Shape SysR -/
import Derived.Test.YthipgpbapdambaaGreatProg
import Derived.WalkKit
import Derived.Outline
import Derived.Lib.Hide
import Derived.Below
import Derived.Laws.NewBlocks
import Derived.Laws.OwnMore
import Derived.OwnWalk
import Derived.Deep.QuietTactic
import Derived.BigQuiet
import Derived.RegionTactic
import Derived.Deep.RegionHeld3
set_option linter.unusedVariables false
set_option linter.unusedSimpArgs false
/- Plain arithmetic modulo the prime 2147483647: the number is prime, and the power P - 2 of a number other than 0 is its inverse. -/
namespace Go.Proofs.YthipgpbapdambaaGreat.M

/-! ### The number is prime -/
def chk (p : Nat) (n : Nat) : Bool := Nat.rec (motive := fun _ => Bool) true (fun k ih => bif p % (k + 2) == 0 then false else ih) n

theorem chk_spec (p n : Nat) (h : chk p n = true) : ∀ d, 2 ≤ d → d < n + 2 → p % d ≠ 0 := by
 induction n with
 | zero => intro d h1 h2; omega
 | succ n ih =>
  intro d h1 h2
  have hs : (bif p % (n + 2) == 0 then false else chk p n) = true := h
  have hm : p % (n + 2) ≠ 0 := by
   intro e
   rw [show (p % (n + 2) == 0) = true from by simp [e]] at hs
   simp at hs
  rw [show (p % (n + 2) == 0) = false from by simp [hm]] at hs
  by_cases e : d = n + 2
  ·rw [e]; exact hm
  ·exact ih hs d h1 (by omega)

def IsPrime (p : Nat) : Prop := 2 ≤ p ∧ ∀ d, d ∣ p → d = 1 ∨ d = p

theorem chkP : chk 2147483647 46340 = true := by decide +kernel

theorem primeP : IsPrime 2147483647 := by
 refine ⟨by omega, fun d ⟨k, hk⟩ => ?_⟩
 have hc := chk_spec _ _ chkP
 by_cases h1 : d = 1
 ·exact .inl h1
 by_cases h2 : d = 2147483647
 ·exact .inr h2
 exfalso
 have d0 : d ≠ 0 := by intro e; subst e; simp at hk
 have k0 : k ≠ 0 := by intro e; subst e; simp at hk
 have k1 : k ≠ 1 := by intro e; subst e; omega
 by_cases hd : d < 46342
 ·exact hc d (by omega) (by omega) (by rw [hk]; exact Nat.mul_mod_right d k)
 ·have hk2 : k < 46342 := by
   apply Classical.byContradiction
   intro h
   have : 46342 * 46342 ≤ d * k := Nat.mul_le_mul (by omega) (by omega)
   omega
  exact hc k (by omega) (by omega) (by rw [hk]; exact Nat.mul_mod_left d k)

theorem coprime_of_lt {p a : Nat} (hp : IsPrime p) (h0 : 0 < a) (h1 : a < p) : Nat.Coprime p a := by
 rcases hp.2 (Nat.gcd p a) (Nat.gcd_dvd_left p a) with h | h
 ·exact h
 ·exfalso
  have hd : p ∣ a := by rw [← h]; exact Nat.gcd_dvd_right p a
  have := Nat.le_of_dvd h0 hd
  omega

/-! ### Binomial coefficients -/
def ch : Nat → Nat → Nat
 | _, 0 => 1
 | 0, _ + 1 => 0
 | n + 1, k + 1 => ch n k + ch n (k + 1)

theorem ch_zero (n : Nat) : ch n 0 = 1 := by cases n <;> rfl
theorem ch_succ (n k : Nat) : ch (n + 1) (k + 1) = ch n k + ch n (k + 1) := rfl
theorem ch_gt : ∀ (n k : Nat), n < k → ch n k = 0
 | 0, 0, h => by omega
 | 0, _ + 1, _ => rfl
 | n + 1, 0, h => by omega
 | n + 1, k + 1, h => by rw [ch_succ, ch_gt n k (by omega), ch_gt n (k + 1) (by omega)]
theorem ch_self : ∀ (n : Nat), ch n n = 1
 | 0 => rfl
 | n + 1 => by rw [ch_succ, ch_self n, ch_gt n (n + 1) (by omega)]

theorem ch_mul : ∀ (n k : Nat), (n + 1) * ch n k = ch (n + 1) (k + 1) * (k + 1)
 | 0, 0 => rfl
 | 0, k + 1 => by rw [ch_gt 0 (k + 1) (by omega), ch_gt (0 + 1) (k + 1 + 1) (by omega)]; simp
 | n + 1, 0 => by
  have h := ch_mul n 0
  rw [ch_zero] at h ⊢
  rw [ch_succ (n + 1) 0, ch_zero]
  simp only [Nat.mul_one] at h ⊢
  omega
 | n + 1, k + 1 => by
  have h1 := ch_mul n k
  have h2 := ch_mul n (k + 1)
  rw [ch_succ (n + 1) (k + 1), ch_succ n k]
  rw [ch_succ n (k + 1)] at h2
  rw [ch_succ n k] at h1
  try rw [ch_succ n (k + 1)]
  generalize ch n k = a at *
  generalize ch n (k + 1) = b at *
  generalize ch n (k + 1 + 1) = c at *
  simp only [Nat.add_mul, Nat.mul_add, Nat.one_mul, Nat.mul_one] at *
  omega

theorem dvd_ch {p k : Nat} (hp : IsPrime p) (h0 : 0 < k) (h1 : k < p) : p ∣ ch p k := by
 obtain ⟨n, rfl⟩ : ∃ n, p = n + 1 := ⟨p - 1, by omega⟩
 obtain ⟨j, rfl⟩ : ∃ j, k = j + 1 := ⟨k - 1, by omega⟩
 have h := ch_mul n j
 exact (coprime_of_lt hp h0 h1).dvd_of_dvd_mul_right ⟨ch n j, h.symm⟩

/-! ### (x + 1) ^ n -/
/-- The sum of the terms of (x + 1)^n below m. -/
def bs (n x : Nat) : Nat → Nat
 | 0 => 0
 | m + 1 => bs n x m + ch n m * x ^ m

theorem bs_step (n x : Nat) : ∀ m, bs (n + 1) x (m + 1) = bs n x (m + 1) + x * bs n x m
 | 0 => by simp [bs, ch_zero]
 | m + 1 => by
  have e0 : bs (n + 1) x (m + 1 + 1) = bs (n + 1) x (m + 1) + ch (n + 1) (m + 1) * x ^ (m + 1) := rfl
  have e1 : bs n x (m + 1 + 1) = bs n x (m + 1) + ch n (m + 1) * x ^ (m + 1) := rfl
  have e2 : bs n x (m + 1) = bs n x m + ch n m * x ^ m := rfl
  have e : x * (ch n m * x ^ m) = ch n m * (x ^ m * x) := by rw [Nat.mul_comm, Nat.mul_assoc]
  rw [e0, e1, bs_step n x m, ch_succ n m]
  rw [show x * bs n x (m + 1) = x * bs n x m + ch n m * (x ^ m * x) from by rw [e2, Nat.mul_add, e]]
  simp only [Nat.add_mul, Nat.pow_succ]
  omega

theorem bs_full (n x : Nat) : bs n x (n + 1) = (x + 1) ^ n := by
 induction n with
 | zero => simp [bs, ch_zero]
 | succ n ih =>
  rw [bs_step n x (n + 1), ih]
  have e : bs n x (n + 1 + 1) = bs n x (n + 1) := by
   rw [bs, ch_gt n (n + 1) (by omega)]; simp
  rw [e, ih, Nat.pow_succ, Nat.mul_add, Nat.mul_one, Nat.add_comm, Nat.mul_comm]

theorem bs_mod {p : Nat} (hp : IsPrime p) (x : Nat) : ∀ m, m < p → bs p x (m + 1) % p = 1 % p
 | 0, _ => by simp [bs, ch_zero]
 | m + 1, h => by
  rw [bs, Nat.add_mod, bs_mod hp x m (by omega)]
  obtain ⟨c, hc⟩ := dvd_ch hp (by omega : 0 < m + 1) h
  rw [hc, Nat.mul_assoc, Nat.mul_mod_right]
  simp

theorem frob {p : Nat} (hp : IsPrime p) (x : Nat) : (x + 1) ^ p % p = (x ^ p + 1) % p := by
 have h2 := hp.1
 rw [← bs_full, bs, Nat.add_mod]
 have e : bs p x p % p = 1 % p := by
  have := bs_mod hp x (p - 1) (by omega)
  rwa [show p - 1 + 1 = p from by omega] at this
 rw [e, ch_self, Nat.one_mul, ← Nat.add_mod, Nat.add_comm]

theorem little {p : Nat} (hp : IsPrime p) : ∀ x : Nat, x ^ p % p = x % p
 | 0 => by have := hp.1; rw [Nat.zero_pow (by omega)]
 | x + 1 => by rw [frob hp, Nat.add_mod, little hp x, ← Nat.add_mod]

theorem fermat {p x : Nat} (hp : IsPrime p) (h0 : 0 < x) (h1 : x < p) : x ^ (p - 1) % p = 1 := by
 have h2 := hp.1
 have hl := little hp x
 have hx : 1 ≤ x ^ (p - 1) := Nat.one_le_pow _ _ h0
 have e : x ^ p = x * x ^ (p - 1) := by
  rw [Nat.mul_comm, ← Nat.pow_succ]
  rw [show (p - 1).succ = p from by omega]
 have hd : p ∣ x * (x ^ (p - 1) - 1) := by
  apply Nat.dvd_of_mod_eq_zero
  rw [Nat.mul_sub, Nat.mul_one, ← e]
  exact Nat.sub_mod_eq_zero_of_mod_eq hl
 have hc := (coprime_of_lt hp h0 h1).dvd_of_dvd_mul_left hd
 obtain ⟨c, hc⟩ := hc
 have : x ^ (p - 1) = 1 + p * c := by omega
 rw [this, Nat.add_mul_mod_self_left]
 exact Nat.mod_eq_of_lt (by omega)

/-! ### Over Int -/
/-- a to the power n, modulo P. -/
def pw (a : Int) (n : Nat) : Int := a ^ n % 2147483647

theorem pw_lo (a : Int) (n : Nat) : 0 ≤ pw a n := Int.emod_nonneg _ (by omega)
theorem pw_hi (a : Int) (n : Nat) : pw a n < 2147483647 := Int.emod_lt_of_pos _ (by omega)
theorem pw_zero (a : Int) : pw a 0 = 1 := by simp [pw]
theorem pw_one (a : Int) : pw a 1 = a % 2147483647 := by unfold pw; rw [Int.pow_succ, Int.pow_zero, Int.one_mul]
theorem pw_add (a : Int) (m n : Nat) : pw a (m + n) = pw a m * pw a n % 2147483647 := by
 unfold pw; rw [Int.pow_add, Int.mul_emod]
theorem pw_emod (a : Int) (n : Nat) : pw (a % 2147483647) n = pw a n := by
 induction n with
 | zero => rw [pw_zero, pw_zero]
 | succ n ih => rw [pw_add, pw_add, ih, pw_one, pw_one, Int.emod_emod]

/-- What is left of a power, after some rounds of squaring: r times a to the n. -/
theorem pw_even (a : Int) (m : Nat) : pw (a * a % 2147483647) m = pw a (2 * m) := by
 rw [pw_emod]
 unfold pw
 rw [Int.pow_mul, Int.pow_succ, Int.pow_succ, Int.pow_zero, Int.one_mul]
theorem pw_odd (a : Int) (m : Nat) : pw a (2 * m + 1) = a * pw (a * a % 2147483647) m % 2147483647 := by
 rw [pw_even, Nat.add_comm, pw_add, pw_one, Int.mul_emod, Int.emod_emod, ← Int.mul_emod]

theorem pw_fermat (a : Int) (h : a % 2147483647 ≠ 0) : pw a 2147483646 = 1 := by
 have h0 := Int.emod_nonneg a (by omega : (2147483647 : Int) ≠ 0)
 have h1 := Int.emod_lt_of_pos a (by omega : (0 : Int) < 2147483647)
 rw [← pw_emod]
 obtain ⟨x, hx⟩ := Int.eq_ofNat_of_zero_le h0
 rw [hx] at h h1 ⊢
 have hf := fermat primeP (x := x) (by omega) (by omega)
 unfold pw
 rw [show (2147483647 : Nat) - 1 = 2147483646 from by omega] at hf
 generalize (2147483646 : Nat) = e at *
 have hc : ((x : Int) ^ e) = ((x ^ e : Nat) : Int) := (Int.natCast_pow x e).symm
 rw [hc]
 omega

theorem pw_inv (a : Int) (h : a % 2147483647 ≠ 0) : a * pw a 2147483645 % 2147483647 = 1 := by
 have hf := pw_fermat a h
 rw [show (2147483646 : Nat) = 2147483645 + 1 from by omega, pw_add, pw_one, Int.mul_comm, Int.mul_emod, Int.emod_emod, ← Int.mul_emod] at hf
 exact hf

theorem pw_none (a : Int) (h : a % 2147483647 = 0) : pw a 2147483645 = 0 := by
 rw [← pw_emod, h, show (2147483645 : Nat) = 1 + 2147483644 from by omega, pw_add, pw_one]
 simp
end Go.Proofs.YthipgpbapdambaaGreat.M

/- The field: what each function of layer 1 of the program, and of its model, returns. -/
namespace Go.Proofs.YthipgpbapdambaaGreat
open Go.RowKit
set_option linter.unusedVariables false

theorem ret_int {k : IntKind} {a b : Int} (h : a = b) : Ending.returned (.int k a) = .returned (.int k b) := by rw [h]
theorem ret_bool {a b : Bool} (h : a = b) : Ending.returned (.bool a) = .returned (.bool b) := by rw [h]

/-- Go's remainder by P, brought up where it is negative, is the remainder of the mathematics. -/
theorem tmod_lo (n : Int) (h : n.tmod 2147483647 < 0) : n.tmod 2147483647 + 2147483647 = n % 2147483647 := by
 have h1 := Int.tmod_eq_emod (a := n) (b := 2147483647)
 have h2 := Int.emod_nonneg n (by omega : (2147483647 : Int) ≠ 0)
 rw [h1] at h ⊢
 split at h <;> rename_i hc <;> simp at h <;> simp [hc] <;> omega
theorem tmod_hi (n : Int) (h : ¬ n.tmod 2147483647 < 0) : n.tmod 2147483647 = n % 2147483647 := by
 have h1 := Int.tmod_eq_emod (a := n) (b := 2147483647)
 have h2 := Int.emod_nonneg n (by omega : (2147483647 : Int) ≠ 0)
 have h3 := Int.emod_lt_of_pos n (by omega : (0 : Int) < 2147483647)
 rw [h1] at h ⊢
 split at h <;> rename_i hc <;> simp at h <;> simp [hc] <;> omega
theorem tmod_bd (n : Int) : -2147483647 ≤ n.tmod 2147483647 ∧ n.tmod 2147483647 ≤ 2147483647 := by
 by_cases h : n.tmod 2147483647 < 0
 ·have := tmod_lo n h; omega
 ·have := tmod_hi n h; omega
/-- A product of two numbers of the field. -/
theorem mul_bd (a b : Int) (a0 : 0 ≤ a) (a1 : a < 2147483647) (b0 : 0 ≤ b) (b1 : b < 2147483647) : 0 ≤ a * b ∧ a * b ≤ 4611686014132420609 := by
 refine ⟨Int.mul_nonneg a0 b0, ?_⟩
 have h1 : a * b ≤ 2147483647 * b := Int.mul_le_mul_of_nonneg_right (by omega) b0
 omega
theorem em_bd (n : Int) : 0 ≤ n % 2147483647 ∧ n % 2147483647 < 2147483647 := by omega

set_option maxHeartbeats 400000 in
theorem elemOf_any (n : Int) (w : World) (h0 : -9223372036854775808 ≤ n) (h1 : n ≤ 9223372036854775807) :
  Calls Tryz.prog 120 #[.int .i64 n] w fun e w' => e = .returned (.int .i64 (n % 2147483647)) ∧ w = w' := by
 obtain ⟨b0, b1⟩ := tmod_bd n
 by_cases h : n.tmod 2147483647 < 0
 ·have hh := tmod_lo n h
  have H := Lib.hid hh; clear hh
  go_enter Tryz.func120, Tryz.ntmps120
  go_wp2
  go_ret
  exact ⟨ret_int H.out, rfl⟩
 ·have hh := tmod_hi n h
  have H := Lib.hid hh; clear hh
  go_enter Tryz.func120, Tryz.ntmps120
  go_wp2
  go_ret
  exact ⟨ret_int H.out, rfl⟩

theorem fok_impl (n : Int) (w : World) :
  Calls Tryz.prog 90 #[.int .i64 n] w fun e w' => e = .returned (.bool (decide (0 ≤ n ∧ n < 2147483647))) ∧ w = w' := by
 by_cases h0 : 0 ≤ n
 ·by_cases h1 : n < 2147483647
  all_goals
   go_enter Tryz.func90, Tryz.ntmps90
   go_wp2
   go_ret
   exact ⟨ret_bool (by simp; omega), rfl⟩
 ·go_enter Tryz.func90, Tryz.ntmps90
  go_wp2
  go_ret
  exact ⟨ret_bool (by simp; omega), rfl⟩

theorem plus_any (a b : Int) (w : World) (a0 : 0 ≤ a) (a1 : a < 2147483647) (b0 : 0 ≤ b) (b1 : b < 2147483647) :
  Calls Tryz.prog 119 #[.int .i64 a, .int .i64 b] w fun e w' => e = .returned (.int .i64 ((a + b) % 2147483647)) ∧ w = w' := by
 go_enter Tryz.func119, Tryz.ntmps119
 go_wp2_with (go_at_call 120; refine (elemOf_any _ _ (by omega) (by omega)).mono ?_; rintro e w' ⟨rfl, rfl⟩)
 go_ret
 exact ⟨rfl, rfl⟩

theorem times_any (a b : Int) (w : World) (a0 : 0 ≤ a) (a1 : a < 2147483647) (b0 : 0 ≤ b) (b1 : b < 2147483647) :
  Calls Tryz.prog 104 #[.int .i64 a, .int .i64 b] w fun e w' => e = .returned (.int .i64 (a * b % 2147483647)) ∧ w = w' := by
 obtain ⟨m0, m1⟩ := mul_bd a b a0 a1 b0 b1
 go_enter Tryz.func104, Tryz.ntmps104
 go_wp2_with (go_at_call 120; refine (elemOf_any _ _ (by omega) (by omega)).mono ?_; rintro e w' ⟨rfl, rfl⟩)
 go_ret
 exact ⟨rfl, rfl⟩

theorem l1mul_any (a b : Int) (w : World) (a0 : 0 ≤ a) (a1 : a < 2147483647) (b0 : 0 ≤ b) (b1 : b < 2147483647) :
  Calls Tryz.prog 77 #[.int .i64 a, .int .i64 b] w fun e w' => e = .returned (.int .i64 (a * b % 2147483647)) ∧ w = w' := by
 obtain ⟨m0, m1⟩ := mul_bd a b a0 a1 b0 b1
 go_enter Tryz.func77, Tryz.ntmps77
 go_wp2
 go_ret
 exact ⟨rfl, rfl⟩

/-- What a loop of squarings keeps: r times b to the m is what was asked. -/
def PowInv (a : Int) (n : Nat) (b : Int) (m : Nat) (r : Int) : Prop := r * M.pw b m % 2147483647 = M.pw a n

theorem PowInv.start (a : Int) (n : Nat) : PowInv a n a n 1 := by
 unfold PowInv; have := M.pw_lo a n; have := M.pw_hi a n; omega
theorem PowInv.stop {a : Int} {n : Nat} {b r : Int} (h : PowInv a n b 0 r) (r0 : 0 ≤ r) (r1 : r < 2147483647) : r = M.pw a n := by
 unfold PowInv at h; rw [M.pw_zero] at h; omega
theorem PowInv.even {a : Int} {n : Nat} {b r : Int} {m : Nat} (h : PowInv a n b m r) (he : m % 2 = 0) : PowInv a n (b * b % 2147483647) (m / 2) r := by
 unfold PowInv at h ⊢
 obtain ⟨k, rfl⟩ : ∃ k, m = 2 * k := ⟨m / 2, by omega⟩
 rw [show 2 * k / 2 = k from by omega, M.pw_even, h]
theorem PowInv.odd {a : Int} {n : Nat} {b r : Int} {m : Nat} (h : PowInv a n b m r) (he : m % 2 = 1) : PowInv a n (b * b % 2147483647) (m / 2) (r * b % 2147483647) := by
 unfold PowInv at h ⊢
 obtain ⟨k, rfl⟩ : ∃ k, m = 2 * k + 1 := ⟨m / 2, by omega⟩
 rw [show (2 * k + 1) / 2 = k from by omega]
 rw [M.pw_odd] at h
 rw [← h, Int.mul_emod, Int.emod_emod, ← Int.mul_emod, Int.mul_emod r, Int.emod_emod, ← Int.mul_emod, Int.mul_assoc]

set_option maxHeartbeats 1000000 in
theorem power_any (a : Int) (n : Nat) (w : World) (a0 : 0 ≤ a) (a1 : a < 2147483647) (n1 : n ≤ 9223372036854775807) :
  Calls Tryz.prog 159 #[.int .i64 a, .int .i64 n] w fun e w' => e = .returned (.int .i64 (M.pw a n)) ∧ w = w' := by
 go_enter Tryz.func159, Tryz.ntmps159
 go_wp2
 go_loop [0, 1, 5] (fun x y z => ∃ (b : Int) (m : Nat) (r : Int), 0 ≤ b ∧ b < 2147483647 ∧ 0 ≤ r ∧ r < 2147483647 ∧ m ≤ n ∧ PowInv a n b m r ∧ x = .int .i64 b ∧ y = .int .i64 m ∧ z = .int .i64 r) (fun _ y _ => (intOf y).toNat)
 case atStart => exact ⟨a, n, 1, a0, a1, by omega, by omega, Nat.le_refl _, PowInv.start a n, rfl, rfl, rfl⟩
 case round =>
  obtain ⟨b, m, r, b0, b1, r0, r1, hm, hi, rfl, rfl, rfl⟩ := hrel
  by_cases h : 0 < m
  ·by_cases ho : m % 2 = 1
   ·have hi' := hi.odd ho
    have e1 := em_bd (r * b)
    have e2 := em_bd (b * b)
    have hb : ((m : Int) % 2 == 1) = true := by simp; omega
    go_wp2_with (go_at_call 104; refine (times_any _ _ _ (by omega) (by omega) (by omega) (by omega)).mono ?_; rintro e w' ⟨rfl, rfl⟩)
    go_round
    case rel => exact ⟨_, m / 2, _, e2.1, e2.2, e1.1, e1.2, by omega, hi', rfl, by go_num, rfl⟩
    case measure => simp [intOf]; omega
   ·have hi' := hi.even (by omega)
    have e2 := em_bd (b * b)
    have hb : ((m : Int) % 2 == 1) = false := by simp; omega
    go_wp2_with (go_at_call 104; refine (times_any _ _ _ (by omega) (by omega) (by omega) (by omega)).mono ?_; rintro e w' ⟨rfl, rfl⟩)
    go_round
    case rel => exact ⟨_, m / 2, _, e2.1, e2.2, r0, r1, by omega, hi', rfl, by go_num, rfl⟩
    case measure => simp [intOf]; omega
  ·obtain rfl : m = 0 := by omega
   go_wp2
   go_ret
   exact ⟨ret_int (hi.stop r0 r1), rfl⟩

theorem fok_spec (n : Int) (w : World) :
  Calls Tryz.prog 37 #[.int .i64 n] w fun e w' => e = .returned (.bool (decide (0 ≤ n ∧ n < 2147483647))) ∧ w = w' := by
 by_cases h0 : 0 ≤ n
 ·by_cases h1 : n < 2147483647
  all_goals
   go_enter Tryz.func37, Tryz.ntmps37
   go_wp2
   go_ret
   exact ⟨ret_bool (by simp; omega), rfl⟩
 ·go_enter Tryz.func37, Tryz.ntmps37
  go_wp2
  go_ret
  exact ⟨ret_bool (by simp; omega), rfl⟩

set_option maxHeartbeats 400000 in
theorem fof_spec (n : Int) (w : World) (h0 : -9223372036854775808 ≤ n) (h1 : n ≤ 9223372036854775807) :
  Calls Tryz.prog 78 #[.int .i64 n] w fun e w' => e = .returned (.int .i64 (n % 2147483647)) ∧ w = w' := by
 obtain ⟨b0, b1⟩ := tmod_bd n
 by_cases h : n.tmod 2147483647 < 0
 ·have hh := tmod_lo n h
  have H := Lib.hid hh; clear hh
  go_enter Tryz.func78, Tryz.ntmps78
  go_wp2
  go_ret
  exact ⟨ret_int H.out, rfl⟩
 ·have hh := tmod_hi n h
  have H := Lib.hid hh; clear hh
  go_enter Tryz.func78, Tryz.ntmps78
  go_wp2
  go_ret
  exact ⟨ret_int H.out, rfl⟩

set_option maxHeartbeats 400000 in
theorem l1add_any (a b : Int) (w : World) (a0 : 0 ≤ a) (a1 : a < 2147483647) (b0 : 0 ≤ b) (b1 : b < 2147483647) :
  Calls Tryz.prog 103 #[.int .i64 a, .int .i64 b] w fun e w' => e = .returned (.int .i64 ((a + b) % 2147483647)) ∧ w = w' := by
 go_enter Tryz.func103, Tryz.ntmps103
 go_wp2
 go_ret
 exact ⟨rfl, rfl⟩

set_option maxHeartbeats 400000 in
theorem fmul_spec (a b : Int) (w : World) (a0 : -9223372036854775808 ≤ a) (a1 : a ≤ 9223372036854775807) (b0 : -9223372036854775808 ≤ b) (b1 : b ≤ 9223372036854775807) :
  Calls Tryz.prog 32 #[.int .i64 a, .int .i64 b] w fun e w' => e = .returned (.int .i64 (a * b % 2147483647)) ∧ w = w' := by
 go_enter Tryz.func32, Tryz.ntmps32
 go_wp2_with (first | (go_at_call 78; refine (fof_spec _ _ (by omega) (by omega)).mono ?_; rintro e w' ⟨rfl, rfl⟩) | (go_at_call 77; refine (l1mul_any _ _ _ (by omega) (by omega) (by omega) (by omega)).mono ?_; rintro e w' ⟨rfl, rfl⟩))
 go_ret
 exact ⟨ret_int (Int.mul_emod a b 2147483647).symm, rfl⟩

set_option maxHeartbeats 1000000 in
theorem l1pow_any (a : Int) (n : Nat) (w : World) (a0 : 0 ≤ a) (a1 : a < 2147483647) (n1 : n ≤ 9223372036854775807) :
  Calls Tryz.prog 129 #[.int .i64 a, .int .i64 n] w fun e w' => e = .returned (.int .i64 (M.pw a n)) ∧ w = w' := by
 go_enter Tryz.func129, Tryz.ntmps129
 go_wp2
 go_loop [0, 1, 5] (fun x y z => ∃ (b : Int) (m : Nat) (r : Int), 0 ≤ b ∧ b < 2147483647 ∧ 0 ≤ r ∧ r < 2147483647 ∧ m ≤ n ∧ PowInv a n b m r ∧ x = .int .i64 b ∧ y = .int .i64 m ∧ z = .int .i64 r) (fun _ y _ => (intOf y).toNat)
 case atStart => exact ⟨a, n, 1, a0, a1, by omega, by omega, Nat.le_refl _, PowInv.start a n, rfl, rfl, rfl⟩
 case round =>
  obtain ⟨b, m, r, b0, b1, r0, r1, hm, hi, rfl, rfl, rfl⟩ := hrel
  by_cases h : 0 < m
  ·by_cases ho : m % 2 = 1
   ·have hi' := hi.odd ho
    have e1 := em_bd (r * b)
    have e2 := em_bd (b * b)
    have hb : ((m : Int) % 2 == 1) = true := by simp; omega
    go_wp2_with (go_at_call 77; refine (l1mul_any _ _ _ (by omega) (by omega) (by omega) (by omega)).mono ?_; rintro e w' ⟨rfl, rfl⟩)
    go_round
    case rel => exact ⟨_, m / 2, _, e2.1, e2.2, e1.1, e1.2, by omega, hi', rfl, by go_num, rfl⟩
    case measure => simp [intOf]; omega
   ·have hi' := hi.even (by omega)
    have e2 := em_bd (b * b)
    have hb : ((m : Int) % 2 == 1) = false := by simp; omega
    go_wp2_with (go_at_call 77; refine (l1mul_any _ _ _ (by omega) (by omega) (by omega) (by omega)).mono ?_; rintro e w' ⟨rfl, rfl⟩)
    go_round
    case rel => exact ⟨_, m / 2, _, e2.1, e2.2, r0, r1, by omega, hi', rfl, by go_num, rfl⟩
    case measure => simp [intOf]; omega
  ·obtain rfl : m = 0 := by omega
   go_wp2
   go_ret
   exact ⟨ret_int (hi.stop r0 r1), rfl⟩

/-- FPow and its model: 0 for an exponent below 0. -/
def fpow (a n : Int) : Int := if n < 0 then 0 else M.pw a n.toNat

theorem fpow_neg {a n : Int} (h : n < 0) : fpow a n = 0 := if_pos h
theorem fpow_nat (a : Int) (n : Nat) : fpow a n = M.pw a n := by unfold fpow; rw [if_neg (by omega), Int.toNat_natCast]

theorem inverse_any (a : Int) (w : World) (a0 : 0 ≤ a) (a1 : a < 2147483647) :
  Calls Tryz.prog 156 #[.int .i64 a] w fun e w' => e = .returned (.int .i64 (M.pw a 2147483645)) ∧ w = w' := by
 go_enter Tryz.func156, Tryz.ntmps156
 go_wp2_with (go_at_call 159; refine (power_any a 2147483645 _ (by omega) (by omega) (by omega)).mono ?_; rintro e w' ⟨rfl, rfl⟩)
 go_ret
 exact ⟨rfl, rfl⟩

theorem l1inv_any (a : Int) (w : World) (a0 : 0 ≤ a) (a1 : a < 2147483647) :
  Calls Tryz.prog 111 #[.int .i64 a] w fun e w' => e = .returned (.int .i64 (M.pw a 2147483645)) ∧ w = w' := by
 by_cases h : a = 0
 ·have hn := M.pw_none a (by omega)
  have H := Lib.hid hn; clear hn
  have hb : (a == 0) = true := by simp [h]
  clear h
  go_enter Tryz.func111, Tryz.ntmps111
  go_wp2
  go_ret
  exact ⟨ret_int H.out.symm, rfl⟩
 ·have hb : (a == 0) = false := by simp [h]
  clear h
  go_enter Tryz.func111, Tryz.ntmps111
  go_wp2_with (go_at_call 129; refine (l1pow_any a 2147483645 _ (by omega) (by omega) (by omega)).mono ?_; rintro e w' ⟨rfl, rfl⟩)
  go_ret
  exact ⟨rfl, rfl⟩

/-- The negation in the field; -1 for what is no number of the field. -/
def fneg (a : Int) : Int := if 0 ≤ a ∧ a < 2147483647 then (0 - a) % 2147483647 else -1

end Go.Proofs.YthipgpbapdambaaGreat

/- The exact laws of layer 1 over numbers: what the program returns is what the model returns. -/
namespace Go.Proofs.YthipgpbapdambaaGreat
open Go.RowKit
end Go.Proofs.YthipgpbapdambaaGreat

/- Slices of numbers: what they read as; copying and comparing them. -/
namespace Go.Proofs.YthipgpbapdambaaGreat.S
open Go.RowKit
set_option linter.unusedVariables false

/-- It fits an int. -/
def Fits (x : Int) : Prop := -9223372036854775808 ≤ x ∧ x ≤ 9223372036854775807

theorem below_drewN (B : Nat) (w : World) (n : Nat) : Below B w (w.drewN n) := ⟨rfl, rfl, rfl, Nat.le_refl _, fun _ _ => rfl⟩

/-- The value v is a slice that reads as xs, in a block below lim. -/
def Ints (lim : Nat) (w : World) (v : Value) (xs : List Int) : Prop :=
 ∃ a cap, v = .slice a xs.length cap ∧ xs.length ≤ cap ∧ cap ≤ 9223372036854775807 ∧ (∀ x ∈ xs, Fits x) ∧
  (xs = [] ∨ ∃ b off, a = some ⟨b, off, none⟩ ∧ b < lim ∧ ∀ j x, xs[j]? = some x → w.cell? ⟨b, off + j, none⟩ = some (.int .i64 x))

theorem Ints.keep {lim B : Nat} {w w' : World} {v : Value} {xs : List Int} (h : Ints lim w v xs) (hb : Below B w w') (hl : lim ≤ B) : Ints lim w' v xs := by
 obtain ⟨a, cap, rfl, h1, h2, h3, h4⟩ := h
 refine ⟨a, cap, rfl, h1, h2, h3, ?_⟩
 rcases h4 with h4 | ⟨b, off, e, hlt, hc⟩
 ·exact .inl h4
 ·exact .inr ⟨b, off, e, hlt, fun j x hx => by rw [hb.cell (p := ⟨b, off + j, none⟩) (Nat.lt_of_lt_of_le hlt hl)]; exact hc j x hx⟩

theorem Ints.mono {lim lim' : Nat} {w : World} {v : Value} {xs : List Int} (h : Ints lim w v xs) (hl : lim ≤ lim') : Ints lim' w v xs := by
 obtain ⟨a, cap, rfl, h1, h2, h3, h4⟩ := h
 refine ⟨a, cap, rfl, h1, h2, h3, ?_⟩
 rcases h4 with h4 | ⟨b, off, e, hlt, hc⟩
 ·exact .inl h4
 ·exact .inr ⟨b, off, e, Nat.lt_of_lt_of_le hlt hl, hc⟩

theorem Ints.shape {lim : Nat} {w : World} {v : Value} {xs : List Int} (h : Ints lim w v xs) : ∃ a cap, v = .slice a xs.length cap ∧ xs.length ≤ cap ∧ cap ≤ 9223372036854775807 := by
 obtain ⟨a, cap, e, h1, h2, _⟩ := h
 exact ⟨a, cap, e, h1, h2⟩

theorem Ints.at {lim : Nat} {w : World} {a : Option Addr} {len cap : Nat} {xs : List Int} (h : Ints lim w (.slice a len cap) xs) {k : Nat} (hk : k < xs.length) :
  ∃ b off x, a = some ⟨b, off, none⟩ ∧ b < lim ∧ w.cell? ⟨b, off + k, none⟩ = some (.int .i64 x) ∧ xs[k]? = some x ∧ Fits x := by
 obtain ⟨a', cap', e, h1, h2, h3, h4⟩ := h
 simp only [Value.slice.injEq] at e
 obtain ⟨rfl, _, rfl⟩ := e
 rcases h4 with h4 | ⟨b, off, e, hlt, hc⟩
 ·subst h4; simp at hk
 ·exact ⟨b, off, xs[k], e, hlt, hc k _ (List.getElem?_eq_getElem hk), List.getElem?_eq_getElem hk, h3 _ (List.getElem_mem hk)⟩

theorem ret_bool {a b : Bool} (h : a = b) : Ending.returned (.bool a) = .returned (.bool b) := by rw [h]

theorem take_step {α : Type} {xs : List α} {k : Nat} {x : α} (h : xs[k]? = some x) : xs.take (k + 1) = xs.take k ++ [x] := by
 rw [List.take_add_one, h]; rfl
theorem take_end {α : Type} {xs : List α} {k : Nat} (h : ¬ k < xs.length) : xs.take k = xs := List.take_of_length_le (by omega)
end Go.Proofs.YthipgpbapdambaaGreat.S

/- Slices of terms: what they read as; sizes, copies, comparison, marks. -/
namespace Go.Proofs.YthipgpbapdambaaGreat.L
open Go.RowKit Go.Proofs.YthipgpbapdambaaGreat.S
set_option linter.unusedVariables false
set_option linter.unusedSimpArgs false

abbrev T := Int × Int

/-- The slice v reads as the terms ts, its row in a block from lo on and below hi; own: the row may be written. -/
def Terms (own : Bool) (lo hi : Nat) (w : World) (v : Value) (ts : List T) : Prop :=
 ∃ a cap, v = .slice a ts.length cap ∧ ts.length ≤ cap ∧ cap ≤ 9223372036854775807 ∧ (∀ t ∈ ts, Fits t.1 ∧ Fits t.2) ∧
  (ts = [] ∨ ∃ b off, a = some ⟨b, off, none⟩ ∧ lo ≤ b ∧ b < hi ∧ (own = true → ∀ j, w.frozen? ⟨b, j, none⟩ = false) ∧
   ∀ j t, ts[j]? = some t → w.cell? ⟨b, off + j * 2, none⟩ = some (.int .i64 t.1) ∧ w.cell? ⟨b, off + j * 2 + 1, none⟩ = some (.int .i64 t.2))

/-- From w to w' only blocks from lo on and below hi may have been written; new ones may have come. -/
structure Only (lo hi : Nat) (w w' : World) : Prop where
 os : w'.os = w.os
 tape : w'.tape = w.tape
 output : w'.output = w.output
 size : w.heap.size ≤ w'.heap.size
 block : ∀ k, k < w.heap.size → (k < lo ∨ hi ≤ k) → w'.heap[k]? = w.heap[k]?

theorem bdrewN {B : Nat} {a w : World} (h : Below B a w) (n : Nat) : Below B a (w.drewN n) := ⟨h.os, h.tape, h.output, h.size, h.block⟩
theorem bset {B : Nat} {a w : World} {p : Addr} (hs : B ≤ p.block) (h : Below B a w) (u : Value) : Below B a (w.setCell p u) := h.setCell hs u
theorem balloc {B : Nat} {a w : World} (hs : B ≤ w.heap.size) (h : Below B a w) (o : Obj) : Below B a (w.alloc o) := h.alloc hs o
theorem blt {w : World} {a : Addr} {v : Value} (h : w.cell? a = some v) : a.block < w.heap.size := World.block_lt_of_cell? w a h
theorem bR (B : Nat) (w : World) : Below B w w := Below.refl B w
theorem bD {B : Nat} {a w : World} (h : Below B a w) : Below B a w.drew := Below.drew h
theorem bN {B : Nat} {a w : World} (h : Below B a w) (n : Nat) : Below B a (w.drewN n) := bdrewN h n
theorem bS {B : Nat} {a w : World} {p : Addr} (h : Below B a w) (u : Value) (hs : B ≤ p.block := by first | exact Nat.le_refl _ | (simp; done) | omega | (simp; omega)) : Below B a (w.setCell p u) := bset hs h u
theorem bA {B : Nat} {a w : World} (h : Below B a w) (o : Obj) (hs : B ≤ w.heap.size := by first | exact Nat.le_refl _ | (simp; done) | omega | (simp; omega)) : Below B a (w.alloc o) := balloc hs h o
theorem Only.refl (lo hi : Nat) (w : World) : Only lo hi w w := ⟨rfl, rfl, rfl, Nat.le_refl _, fun _ _ _ => rfl⟩
theorem Only.trans {lo hi : Nat} {a b c : World} (h : Only lo hi a b) (k : Only lo hi b c) : Only lo hi a c :=
 ⟨k.os.trans h.os, k.tape.trans h.tape, k.output.trans h.output, Nat.le_trans h.size k.size, fun i hi ho => (k.block i (Nat.lt_of_lt_of_le hi h.size) ho).trans (h.block i hi ho)⟩
theorem Only.of_below {lo hi B : Nat} {w w' : World} (h : Below B w w') (hB : w.heap.size ≤ B) : Only lo hi w w' :=
 ⟨h.os, h.tape, h.output, h.size, fun k hk _ => h.block k (Nat.lt_of_lt_of_le hk hB)⟩
theorem Only.below {lo hi B : Nat} {w w' : World} (h : Only lo hi w w') (hB : B ≤ lo) (hs : B ≤ w.heap.size) : Below B w w' :=
 ⟨h.os, h.tape, h.output, h.size, fun k hk => h.block k (Nat.lt_of_lt_of_le hk hs) (.inl (Nat.lt_of_lt_of_le hk hB))⟩
theorem Only.wide {lo hi lo' hi' : Nat} {w w' : World} (h : Only lo hi w w') (h1 : lo' ≤ lo) (h2 : hi ≤ hi') : Only lo' hi' w w' :=
 ⟨h.os, h.tape, h.output, h.size, fun k hk ho => h.block k hk (by omega)⟩
theorem Only.setCell {lo hi : Nat} {a w : World} (h : Only lo hi a w) {p : Addr} (h1 : lo ≤ p.block) (h2 : p.block < hi) (u : Value) : Only lo hi a (w.setCell p u) :=
 h.trans ⟨rfl, rfl, rfl, by simp [World.setCell], fun k hk ho => Below.heap_setCell _ _ _ _ (by omega)⟩
theorem oset {lo hi : Nat} {a w : World} {p : Addr} (h1 : lo ≤ p.block) (h2 : p.block < hi) (h : Only lo hi a w) (u : Value) : Only lo hi a (w.setCell p u) := h.setCell h1 h2 u
theorem Only.alloc {lo hi : Nat} {a w : World} (h : Only lo hi a w) (o : Obj) : Only lo hi a (w.alloc o) :=
 h.trans ⟨rfl, rfl, rfl, by simp, fun k hk ho => Below.heap_alloc _ _ _ hk⟩
theorem Only.drew {lo hi : Nat} {a w : World} (h : Only lo hi a w) : Only lo hi a w.drew := ⟨h.os, h.tape, h.output, h.size, h.block⟩
theorem odrewN {lo hi : Nat} {a w : World} (h : Only lo hi a w) (n : Nat) : Only lo hi a (w.drewN n) := ⟨h.os, h.tape, h.output, h.size, h.block⟩
theorem Only.cell {lo hi : Nat} {w w' : World} (h : Only lo hi w w') {b : Nat} (hb : b < w.heap.size) (ho : b < lo ∨ hi ≤ b) (j : Nat) : w'.cell? ⟨b, j, none⟩ = w.cell? ⟨b, j, none⟩ :=
 World.cell?_of_block (a := ⟨b, j, none⟩) (h.block b hb ho)
theorem Only.frozen {lo hi : Nat} {w w' : World} (h : Only lo hi w w') {b : Nat} (hb : b < w.heap.size) (ho : b < lo ∨ hi ≤ b) (j : Nat) : w'.frozen? ⟨b, j, none⟩ = w.frozen? ⟨b, j, none⟩ :=
 World.frozen?_of_block (a := ⟨b, j, none⟩) (h.block b hb ho)

theorem Terms.only {own : Bool} {lo hi l h : Nat} {w w' : World} {v : Value} {ts : List T} (ht : Terms own l h w v ts) (ho : Only lo hi w w') (hd : h ≤ lo ∨ hi ≤ l) (hs : h ≤ w.heap.size) : Terms own l h w' v ts := by
 obtain ⟨a, cap, rfl, h1, h2, h3, h4⟩ := ht
 refine ⟨a, cap, rfl, h1, h2, h3, ?_⟩
 rcases h4 with h4 | ⟨b, off, e, hl, hlt, hf, hc⟩
 ·exact .inl h4
 ·have hb : b < w.heap.size := Nat.lt_of_lt_of_le hlt hs
  have hx : b < lo ∨ hi ≤ b := by omega
  exact .inr ⟨b, off, e, hl, hlt, fun hw j => by rw [ho.frozen hb hx]; exact hf hw j, fun j t hj => by rw [ho.cell hb hx, ho.cell hb hx]; exact hc j t hj⟩
theorem Terms.keep {own : Bool} {l h B : Nat} {w w' : World} {v : Value} {ts : List T} (ht : Terms own l h w v ts) (hb : Below B w w') (hl : h ≤ B) : Terms own l h w' v ts := by
 obtain ⟨a, cap, rfl, h1, h2, h3, h4⟩ := ht
 refine ⟨a, cap, rfl, h1, h2, h3, ?_⟩
 rcases h4 with h4 | ⟨b, off, e, hlo, hlt, hf, hc⟩
 ·exact .inl h4
 ·have hx : b < B := Nat.lt_of_lt_of_le hlt hl
  exact .inr ⟨b, off, e, hlo, hlt, fun hw j => by rw [hb.frozen (p := ⟨b, j, none⟩) hx]; exact hf hw j, fun j t hj => by rw [hb.cell (p := ⟨b, off + j * 2, none⟩) hx, hb.cell (p := ⟨b, off + j * 2 + 1, none⟩) hx]; exact hc j t hj⟩
theorem Terms.mono {own : Bool} {l h l' h' : Nat} {w : World} {v : Value} {ts : List T} (ht : Terms own l h w v ts) (h1' : l' ≤ l) (h2' : h ≤ h') : Terms own l' h' w v ts := by
 obtain ⟨a, cap, rfl, h1, h2, h3, h4⟩ := ht
 refine ⟨a, cap, rfl, h1, h2, h3, ?_⟩
 rcases h4 with h4 | ⟨b, off, e, hl, hlt, hf, hc⟩
 ·exact .inl h4
 ·exact .inr ⟨b, off, e, by omega, by omega, hf, hc⟩
theorem Terms.unown {own : Bool} {l h : Nat} {w : World} {v : Value} {ts : List T} (ht : Terms own l h w v ts) : Terms false l h w v ts := by
 obtain ⟨a, cap, rfl, h1, h2, h3, h4⟩ := ht
 refine ⟨a, cap, rfl, h1, h2, h3, ?_⟩
 rcases h4 with h4 | ⟨b, off, e, hl, hlt, hf, hc⟩
 ·exact .inl h4
 ·exact .inr ⟨b, off, e, hl, hlt, fun h => (by cases h), hc⟩
theorem Terms.nil (own : Bool) (l h : Nat) (w : World) : Terms own l h w (.slice none 0 0) [] := ⟨none, 0, rfl, Nat.le_refl _, by omega, by simp, .inl rfl⟩

theorem Terms.shape {own : Bool} {l h : Nat} {w : World} {v : Value} {ts : List T} (ht : Terms own l h w v ts) : ∃ a cap, v = .slice a ts.length cap ∧ ts.length ≤ cap ∧ cap ≤ 9223372036854775807 := by
 obtain ⟨a, cap, e, h1, h2, _⟩ := ht
 exact ⟨a, cap, e, h1, h2⟩
theorem Terms.fits {own : Bool} {l h : Nat} {w : World} {v : Value} {ts : List T} (ht : Terms own l h w v ts) : ∀ t ∈ ts, Fits t.1 ∧ Fits t.2 := by
 obtain ⟨_, _, _, _, _, h, _⟩ := ht
 exact h

theorem Terms.at {own : Bool} {l h : Nat} {w : World} {a : Option Addr} {len cap : Nat} {ts : List T} (ht : Terms own l h w (.slice a len cap) ts) {k : Nat} (hk : k < ts.length) :
  ∃ b off x y, a = some ⟨b, off, none⟩ ∧ l ≤ b ∧ b < h ∧ w.cell? ⟨b, off + k * 2, none⟩ = some (.int .i64 x) ∧ w.cell? ⟨b, off + k * 2 + 1, none⟩ = some (.int .i64 y) ∧ ts[k]? = some (x, y) ∧ Fits x ∧ Fits y := by
 obtain ⟨a', cap', e, h1, h2, h3, h4⟩ := ht
 simp only [Value.slice.injEq] at e
 obtain ⟨rfl, _, rfl⟩ := e
 rcases h4 with h4 | ⟨b, off, e, hl, hlt, _, hc⟩
 ·subst h4; simp at hk
 ·obtain ⟨c0, c1⟩ := hc k _ (List.getElem?_eq_getElem hk)
  exact ⟨b, off, ts[k].1, ts[k].2, e, hl, hlt, c0, c1, List.getElem?_eq_getElem hk, h3 _ (List.getElem_mem hk)⟩

set_option maxHeartbeats 400000 in
theorem toTerm_any (x y : Int) (w : World) :
  Calls Tryz.prog 130 #[.agg #[.int .i64 x, .int .i64 y]] w fun e w' => e = .returned (.agg #[.int .i64 x, .int .i64 y]) ∧ Below w.heap.size w w' := by
 go_enter Tryz.func130, Tryz.ntmps130
 go_wp2_with fail
 exact bodyPost_ret (v := .agg #[.int .i64 x, .int .i64 y]) (by simp [results, Tryz.results130, go_sem]) rfl ⟨rfl, by (repeat (with_reducible first | exact bR _ _ | assumption | refine bD ?_ | refine bN ?_ _ | refine bA ?_ _ | refine bS ?_ _))⟩

set_option maxHeartbeats 400000 in
theorem eqTerm_any (x y u v : Int) (w : World) :
  Calls Tryz.prog 131 #[.agg #[.int .i64 x, .int .i64 y], .agg #[.int .i64 u, .int .i64 v]] w fun e w' => e = .returned (.bool (decide (x = u ∧ y = v))) ∧ Below w.heap.size w w' := by
 by_cases h1 : x = u
 ·by_cases h2 : y = v
  ·have b1 : (x != u) = false := by simp [h1]
   have b2 : (y != v) = false := by simp [h2]
   have H : Hid (decide (x = u ∧ y = v) = true) := Lib.hid (by simp [h1, h2])
   clear h1 h2
   go_enter Tryz.func131, Tryz.ntmps131
   go_wp2_with fail
   go_ret
   exact ⟨ret_bool H.out.symm, by (repeat (with_reducible first | exact bR _ _ | assumption | refine bD ?_ | refine bN ?_ _ | refine bA ?_ _ | refine bS ?_ _))⟩
  ·have b1 : (x != u) = false := by simp [h1]
   have b2 : (y != v) = true := by simp [h2]
   have H : Hid (decide (x = u ∧ y = v) = false) := Lib.hid (by simp [h2])
   clear h1 h2
   go_enter Tryz.func131, Tryz.ntmps131
   go_wp2_with fail
   go_ret
   exact ⟨ret_bool H.out.symm, by (repeat (with_reducible first | exact bR _ _ | assumption | refine bD ?_ | refine bN ?_ _ | refine bA ?_ _ | refine bS ?_ _))⟩
 ·have b1 : (x != u) = true := by simp [h1]
  have H : Hid (decide (x = u ∧ y = v) = false) := Lib.hid (by simp [h1])
  clear h1
  go_enter Tryz.func131, Tryz.ntmps131
  go_wp2_with fail
  go_ret
  exact ⟨ret_bool H.out.symm, by (repeat (with_reducible first | exact bR _ _ | assumption | refine bD ?_ | refine bN ?_ _ | refine bA ?_ _ | refine bS ?_ _))⟩

theorem szTermS_any (own : Bool) (l h : Nat) (v : Value) (ts : List T) (n : Int) (w : World) (h1 : Terms own l h w v ts) (n0 : 0 ≤ n) (n1 : n ≤ 1048576) :
  Calls Tryz.prog 110 #[v, .int .i64 n] w fun e w' => e = .returned (.int .i64 (if n < ts.length then -1 else n - ts.length)) ∧ w = w' := by
 obtain ⟨a, ca, rfl, la, ba⟩ := h1.shape
 by_cases hl : n < ts.length
 ·rw [if_pos hl]
  go_enter Tryz.func110, Tryz.ntmps110
  go_wp2_with fail
  go_ret
  exact ⟨rfl, rfl⟩
 ·rw [if_neg hl]
  go_enter Tryz.func110, Tryz.ntmps110
  go_wp2_with fail
  go_ret
  exact ⟨rfl, rfl⟩

set_option maxHeartbeats 400000 in
theorem szLin_any (own : Bool) (l h : Nat) (v : Value) (ts : List T) (n : Int) (w : World) (h1 : Terms own l h w v ts) (hw : h ≤ w.heap.size) (n0 : 0 ≤ n) (n1 : n ≤ 1048576) :
  Calls Tryz.prog 79 #[.agg #[v], .int .i64 n] w fun e w' => e = .returned (.int .i64 (if n < ts.length then -1 else n - ts.length)) ∧ Below w.heap.size w w' := by
 have hs := szTermS_any own l h v ts n
 by_cases hl : n < ts.length
 ·rw [if_pos hl] at hs ⊢
  go_enter Tryz.func79, Tryz.ntmps79
  go_wp2_with fail
  refine (hs _ (h1.keep (B := h) (by (repeat (with_reducible first | exact bR _ _ | assumption | refine bD ?_ | refine bN ?_ _ | refine bA ?_ _ | refine bS ?_ _))) (Nat.le_refl _)) n0 n1).mono ?_; rintro e w' ⟨rfl, rfl⟩
  clear hs
  go_wp2_with fail
  go_ret
  exact ⟨rfl, by (repeat (with_reducible first | exact bR _ _ | assumption | refine bD ?_ | refine bN ?_ _ | refine bA ?_ _ | refine bS ?_ _))⟩
 ·rw [if_neg hl] at hs ⊢
  go_enter Tryz.func79, Tryz.ntmps79
  go_wp2_with fail
  refine (hs _ (h1.keep (B := h) (by (repeat (with_reducible first | exact bR _ _ | assumption | refine bD ?_ | refine bN ?_ _ | refine bA ?_ _ | refine bS ?_ _))) (Nat.le_refl _)) n0 n1).mono ?_; rintro e w' ⟨rfl, rfl⟩
  clear hs
  go_wp2_with fail
  go_ret
  exact ⟨rfl, by (repeat (with_reducible first | exact bR _ _ | assumption | refine bD ?_ | refine bN ?_ _ | refine bA ?_ _ | refine bS ?_ _))⟩

theorem bcell {W w1 : World} (hb : Below W.heap.size W w1) : (∀ b o, b < W.heap.size → w1.cell? ⟨b, o, none⟩ = W.cell? ⟨b, o, none⟩) ∧ (∀ b o, b < W.heap.size → w1.frozen? ⟨b, o, none⟩ = W.frozen? ⟨b, o, none⟩) :=
 ⟨fun b o h => hb.cell (p := ⟨b, o, none⟩) h, fun b o h => hb.frozen (p := ⟨b, o, none⟩) h⟩
theorem grown_of_below {W W' : World} (be : Below W.heap.size W W') : W.grownBy W' none := ⟨be.os, be.tape, be.output, be.size, fun k hk _ => be.block k hk⟩
theorem row_keep {W W' : World} {base : Nat} {e : TypeId} {size : Nat} {v : Value} {n : Nat} {xs : List Value} (h : W.ownsRow base e size v n xs) (be : Below W.heap.size W W') : W'.ownsRow base e size v n xs :=
 h.kept (grown_of_below be) (by cases v.ownBlock <;> simp)
theorem name_call {P : Program} {f : FuncId} {args : Array Value} {w : World} {R : Ending → World → Prop} (h : ∀ W, W = w → Calls P f args W R) : Calls P f args w R := h w rfl
theorem name_wp {P : Program} {c : Code} {Q : Exit → Act → World → Prop} {a : Act} {w : World} (h : ∀ W, W = w → Code.wp P c Q a W) : Code.wp P c Q a w := h w rfl
theorem alloc_keep {w : World} {a : Addr} {v : Value} {o : Obj} (h : w.cell? a = some v) : (w.alloc o).cell? a = some v := (World.cell?_alloc_lt _ _ _ (World.block_lt_of_cell? w a h)).trans h
theorem dec_self {α : Type} [DecidableEq α] (x : α) : decide (x = x) = true := decide_eq_true rfl
theorem ck {W W' : World} {a : Addr} {v : Value} (be : Below W.heap.size W W') (h : W.cell? a = some v) : W'.cell? a = some v := (be.cell (World.block_lt_of_cell? W a h)).trans h
theorem cell_keep {W W' : World} {a : Addr} {v : Value} (be : Below W.heap.size W W') (h : W.cell? a = some v) : W'.cell? a = some v :=
 (be.cell (World.block_lt_of_cell? W a h)).trans h

theorem take_ne {ts us : List T} {k : Nat} {x y u v : Int} (hx : ts[k]? = some (x, y)) (hy : us[k]? = some (u, v)) (h : ¬ (x = u ∧ y = v)) : decide (ts = us) = false := by
 rw [decide_eq_false_iff_not]
 intro e
 rw [e, hy] at hx
 simp at hx
 exact h ⟨hx.1.symm, hx.2.symm⟩

set_option maxRecDepth 100000 in
set_option maxHeartbeats 1600000 in
theorem eqTermS_any (o1 o2 : Bool) (l1 h1 l2 h2 : Nat) (v u : Value) (ts us : List T) (w : World) (t1 : Terms o1 l1 h1 w v ts) (t2 : Terms o2 l2 h2 w u us) (hw1 : h1 ≤ w.heap.size) (hw2 : h2 ≤ w.heap.size) :
  Calls Tryz.prog 114 #[v, u] w fun e w' => e = .returned (.bool (decide (ts = us))) ∧ Below w.heap.size w w' := by
 obtain ⟨a, ca, rfl, la, ba⟩ := t1.shape
 obtain ⟨b, cb, rfl, lb, bb⟩ := t2.shape
 by_cases hl : ts.length = us.length
 ·have hne : ((ts.length : Int) != (us.length : Int)) = false := by simp [hl]
  have HL := Lib.hid hl
  clear hl
  go_enter Tryz.func114, Tryz.ntmps114
  go_wp2_with fail
  go_loopw [5] (fun i wr => ∃ k : Nat, k ≤ ts.length ∧ i = .int .i64 k ∧ Below w.heap.size w wr ∧ ts.take k = us.take k) (fun i _ => ts.length - (intOf i).toNat)
  case atStart => exact ⟨0, Nat.zero_le _, rfl, Below.refl _ _, rfl⟩
  case round =>
   obtain ⟨k, hk, rfl, be, ht⟩ := hrel
   have HT := Lib.hid ht
   clear ht
   by_cases hlt : k < ts.length
   ·have hlt2 : k < us.length := by rw [← HL.out]; exact hlt
    obtain ⟨b1, o1, x, y, rfl, l1, m1, c1, d1, e1, _⟩ := (t1.keep be hw1).at hlt
    obtain ⟨b2, o2, p, q, rfl, l2, m2, c2, d2, e2, _⟩ := (t2.keep be hw2).at hlt2
    by_cases hxy : x = p ∧ y = q
    ·have HR : Hid (ts.take (k + 1) = us.take (k + 1)) := Lib.hid (by rw [take_step e1, take_step e2, HT.out, hxy.1, hxy.2])
     have hd : decide (x = p ∧ y = q) = true := decide_eq_true hxy
     have HD := Lib.hid hd
     clear hxy hd e1 e2
     go_wp2_with fail
     go_region_held3 (fun w' => w'.cell? ⟨b1, o1 + k * 2, none⟩ = some (.int .i64 x) ∧ w'.cell? ⟨b1, o1 + k * 2 + 1, none⟩ = some (.int .i64 y) ∧ w'.cell? ⟨b2, o2 + k * 2, none⟩ = some (.int .i64 p) ∧ w'.cell? ⟨b2, o2 + k * 2 + 1, none⟩ = some (.int .i64 q)) (first | exact ⟨c1, d1, c2, d2⟩ | exact ⟨cell_keep be2 c1, cell_keep be2 d1, cell_keep be2 c2, cell_keep be2 d2⟩)
      (first | (go_at_call 131; refine (eqTerm_any x y p q _).mono ?_; rw [HD.out]; rintro e w' ⟨rfl, be2⟩))
     go_wp2_with fail
     have be3 := be.drew.trans (be2.mono be.size)
     go_roundw
     case rel => exact ⟨k + 1, by omega, by go_num, be3, HR.out⟩
     case measure => simp [intOf]; omega
    ·have HF := Lib.hid (take_ne e1 e2 hxy)
     have hd : decide (x = p ∧ y = q) = false := decide_eq_false hxy
     have HD := Lib.hid hd
     clear hxy hd e1 e2
     go_wp2_with fail
     go_region_held3 (fun w' => w'.cell? ⟨b1, o1 + k * 2, none⟩ = some (.int .i64 x) ∧ w'.cell? ⟨b1, o1 + k * 2 + 1, none⟩ = some (.int .i64 y) ∧ w'.cell? ⟨b2, o2 + k * 2, none⟩ = some (.int .i64 p) ∧ w'.cell? ⟨b2, o2 + k * 2 + 1, none⟩ = some (.int .i64 q)) (first | exact ⟨c1, d1, c2, d2⟩ | exact ⟨cell_keep be2 c1, cell_keep be2 d1, cell_keep be2 c2, cell_keep be2 d2⟩)
      (first | (go_at_call 131; refine (eqTerm_any x y p q _).mono ?_; rw [HD.out]; rintro e w' ⟨rfl, be2⟩))
     go_wp2_with fail
     have be3 := be.drew.trans (be2.mono be.size)
     go_ret
     exact ⟨ret_bool HF.out.symm, be3⟩
   ·have HF : Hid (decide (ts = us) = true) := Lib.hid (by
     rw [decide_eq_true_iff]
     have := HT.out
     have h2 := HL.out
     rwa [take_end hlt, take_end (by omega)] at this)
    go_wp2_with fail
    go_ret
    exact ⟨ret_bool HF.out.symm, be⟩
 ·have hne : ((ts.length : Int) != (us.length : Int)) = true := by simp; omega
  have HF : Hid (decide (ts = us) = false) := Lib.hid (by rw [decide_eq_false_iff_not]; intro e; exact hl (by rw [e]))
  clear hl
  go_enter Tryz.func114, Tryz.ntmps114
  go_wp2_with fail
  go_ret
  exact ⟨ret_bool HF.out.symm, Below.refl _ _⟩

theorem eqLin_any (o1 o2 : Bool) (l1 h1 l2 h2 : Nat) (v u : Value) (ts us : List T) (w : World) (t1 : Terms o1 l1 h1 w v ts) (t2 : Terms o2 l2 h2 w u us) (hw1 : h1 ≤ w.heap.size) (hw2 : h2 ≤ w.heap.size) :
  Calls Tryz.prog 91 #[.agg #[v], .agg #[u]] w fun e w' => e = .returned (.bool (decide (ts = us))) ∧ Below w.heap.size w w' := by
 have key : ∀ (W : World), Below w.heap.size w W → Calls Tryz.prog 114 #[v, u] W fun e w' => e = .returned (.bool (decide (ts = us))) ∧ Below w.heap.size w w' := fun W be =>
  (eqTermS_any o1 o2 l1 h1 l2 h2 v u ts us W (t1.keep be hw1) (t2.keep be hw2) (Nat.le_trans hw1 be.size) (Nat.le_trans hw2 be.size)).mono fun e w' ⟨he, hb⟩ => ⟨he, be.trans (hb.mono be.size)⟩
 by_cases hd : ts = us
 ·rw [decide_eq_true hd] at key ⊢
  clear hd
  have KEY := Lib.hid key
  clear key
  go_enter Tryz.func91, Tryz.ntmps91
  go_wp2_with fail
  refine (KEY.out _ (by (repeat (with_reducible first | exact bR _ _ | assumption | refine bD ?_ | refine bN ?_ _ | refine bA ?_ _ | refine bS ?_ _)))).mono ?_; rintro e w' ⟨rfl, be⟩
  go_wp2_with fail
  go_ret
  exact ⟨rfl, be⟩
 ·rw [decide_eq_false hd] at key ⊢
  clear hd
  have KEY := Lib.hid key
  clear key
  go_enter Tryz.func91, Tryz.ntmps91
  go_wp2_with fail
  refine (KEY.out _ (by (repeat (with_reducible first | exact bR _ _ | assumption | refine bD ?_ | refine bN ?_ _ | refine bA ?_ _ | refine bS ?_ _)))).mono ?_; rintro e w' ⟨rfl, be⟩
  go_wp2_with fail
  go_ret
  exact ⟨rfl, be⟩

theorem termInfo : (Tryz.prog.info? 159).map (fun i => (i.zero, i.size, i.bytes)) = some (some (.agg #[.int .i64 0, .int .i64 0]), 2, 16) := by kernel_rfl

/-- The cells of a list of terms. -/
def cells (ts : List T) : List Value := ts.flatMap fun t => [.int .i64 t.1, .int .i64 t.2]
theorem cells_cons (t : T) (ts : List T) : cells (t :: ts) = .int .i64 t.1 :: .int .i64 t.2 :: cells ts := rfl
theorem cells_append (ts us : List T) : cells (ts ++ us) = cells ts ++ cells us := by simp [cells]
theorem cells_length (ts : List T) : (cells ts).length = ts.length * 2 := by
 induction ts with
 | nil => rfl
 | cons t ts ih => rw [cells_cons]; simp [ih]; omega
theorem cells_at (ts : List T) (j : Nat) (t : T) (h : ts[j]? = some t) : (cells ts)[j * 2]? = some (.int .i64 t.1) ∧ (cells ts)[j * 2 + 1]? = some (.int .i64 t.2) := by
 induction ts generalizing j with
 | nil => simp at h
 | cons u ts ih =>
  rw [cells_cons]
  cases j with
  | zero => simp at h; subst h; simp
  | succ j =>
   simp at h
   obtain ⟨h1, h2⟩ := ih j h
   rw [show (j + 1) * 2 = j * 2 + 1 + 1 from by omega]
   exact ⟨by simpa using h1, by simpa using h2⟩

/-- A row of one's own reads as its terms. -/
theorem Terms.own {w : World} {base : Nat} {v : Value} {ts : List T} (h : w.ownsRow base 159 2 v ts.length (cells ts)) (hf : ∀ t ∈ ts, Fits t.1 ∧ Fits t.2) : Terms true base w.heap.size w v ts := by
 rcases h.2 with ⟨rfl, h0⟩ | ⟨g, cap, cur, rfl, hb, hg, hc, hcm, hs, ht⟩
 ·have : ts = [] := List.eq_nil_of_length_eq_zero h0
  subst this
  exact Terms.nil _ _ _ _
 ·refine ⟨some ⟨g, 0, none⟩, cap, rfl, hc, by unfold maxLen at hcm; omega, hf, ?_⟩
  refine .inr ⟨g, 0, rfl, hb, (h.lt g rfl).2, fun _ j => h.frozenAt j, fun j t hj => ?_⟩
  have hjl : j < ts.length := (List.getElem?_eq_some_iff.1 hj).1
  obtain ⟨c1, c2⟩ := cells_at ts j t hj
  rw [show (0 : Nat) + j * 2 = j * 2 from Nat.zero_add _]
  exact ⟨(h.cellAt _ (by omega)).trans c1, (h.cellAt _ (by omega)).trans c2⟩

/-- The copy's terms behind k rounds. -/
def part (ts : List T) (k : Nat) : List T := ts.take k ++ List.replicate (ts.length - k) (0, 0)
theorem part_length (ts : List T) (k : Nat) (h : k ≤ ts.length) : (part ts k).length = ts.length := by unfold part; simp; omega
theorem part_end (ts : List T) : part ts ts.length = ts := by simp [part]
theorem part_split (ts : List T) (k : Nat) (t : T) (h : ts[k]? = some t) : cells (part ts (k + 1)) = ((cells (part ts k)).set (k * 2) (.int .i64 t.1)).set (k * 2 + 1) (.int .i64 t.2) := by
 have hk : k < ts.length := (List.getElem?_eq_some_iff.1 h).1
 have hl : (cells (ts.take k)).length = k * 2 := by rw [cells_length]; simp; omega
 unfold part
 rw [take_step h, show ts.length - k = (ts.length - (k + 1)) + 1 from by omega, List.replicate_succ, cells_append, cells_append, cells_append]
 rw [List.append_assoc, List.set_append_right _ _ (by omega), hl, Nat.sub_self, List.set_append_right _ _ (by omega), hl, show k * 2 + 1 - k * 2 = 1 from by omega]
 rfl
theorem part_at (ts : List T) (k : Nat) (h : k < ts.length) : (cells (part ts k))[k * 2]? = some (.int .i64 0) ∧ (cells (part ts k))[k * 2 + 1]? = some (.int .i64 0) := by
 have h1 : (part ts k)[k]? = some (0, 0) := by
  unfold part
  have hl : (ts.take k).length = k := by simp; omega
  rw [List.getElem?_append_right (by omega), hl, Nat.sub_self, List.getElem?_replicate, if_pos (by omega)]
 exact cells_at _ k _ h1
theorem made_zero (n : Nat) : (madeCells #[Value.int .i64 0, .int .i64 0] (n * 2)).toList = cells (List.replicate n (0, 0)) := by
 apply List.ext_getElem?
 intro j
 by_cases hj : j < n * 2
 ·have h1 : (List.replicate n ((0, 0) : T))[j / 2]? = some (0, 0) := by rw [List.getElem?_replicate, if_pos (by omega)]
  obtain ⟨c1, c2⟩ := cells_at _ _ _ h1
  have e : (madeCells #[Value.int .i64 0, .int .i64 0] (n * 2)).toList[j]? = some (.int .i64 0) := by
   have : j % 2 = 0 ∨ j % 2 = 1 := by omega
   rcases this with h | h <;> simp [madeCells, hj, h]
  rw [e]
  rcases (show j = j / 2 * 2 ∨ j = j / 2 * 2 + 1 from by omega) with h | h
  ·rw [h, c1]
  ·rw [h, c2]
 ·rw [List.getElem?_eq_none (by simp [madeCells]; omega), List.getElem?_eq_none (by rw [cells_length]; simp; omega)]

set_option maxRecDepth 100000 in
set_option maxHeartbeats 1600000 in
/-- A copy lies in a new block. -/
theorem toTermS_any (own : Bool) (l h : Nat) (v : Value) (ts : List T) (w : World) (h1 : Terms own l h w v ts) (hw : h ≤ w.heap.size) (hlen : ts.length ≤ 1048576) :
  Calls Tryz.prog 112 #[v] w fun e w' => ∃ u, e = .returned u ∧ Below w.heap.size w w' ∧ Terms true w.heap.size w'.heap.size w' u ts := by
 obtain ⟨a, ca, rfl, la, ba⟩ := h1.shape
 obtain ⟨i0, hi, hz0, hz1, hz2⟩ := info_parts termInfo
 have H3 := Lib.hid h1.fits
 go_enter Tryz.func112, Tryz.ntmps112
 go_wp2_with (refine wpList_make_full _ rfl _ _ 51 rfl w.heap.size 159 i0 (.agg #[.int .i64 0, .int .i64 0]) 2 Tryz.underlying51 hi hz0 hz1 .i64 .i64 _ _ ts.length rfl rfl rfl rfl (by rw [hz2]; omega) (by unfold maxLen; omega) (Nat.le_refl _) ?_; intro w1 hown hgr)
 have be1 : Below w.heap.size w w1 := (Below.refl _ _).grown hgr (Nat.le_refl _) (fun k e => by simp at e)
 have hown1 : w1.ownsRow w.heap.size 159 2 (Value.slice (some ⟨w.heap.size, 0, none⟩) ts.length ts.length) ts.length (cells (part ts 0)) := by
  have e : part ts 0 = List.replicate ts.length (0, 0) := by simp [part]
  rw [e, ← made_zero]
  exact hown
 clear hown hgr hi hz0 hz1 hz2
 go_loopw [4] (fun i wr => ∃ k : Nat, k ≤ ts.length ∧ i = .int .i64 k ∧ Below w.heap.size w wr ∧ wr.ownsRow w.heap.size 159 2 (Value.slice (some ⟨w.heap.size, 0, none⟩) ts.length ts.length) ts.length (cells (part ts k))) (fun i _ => ts.length - (intOf i).toNat)
 case atStart => exact ⟨0, Nat.zero_le _, rfl, be1, hown1⟩
 case round =>
  obtain ⟨k, hk, rfl, be, hown⟩ := hrel
  by_cases hlt : k < ts.length
  ·obtain ⟨b, off, x, y, rfl, l1, m1, c1, d1, e1, _⟩ := (h1.keep be hw).at hlt
   go_wp2_with fail
   refine (toTerm_any x y _).mono ?_; rintro e w2 ⟨rfl, be2⟩
   have hown2 := row_keep hown be2
   have be3 := be.trans (be2.mono be.size)
   obtain ⟨p0, p1⟩ := part_at ts k hlt
   have pl := part_length ts k hk
   have cw := (hown2.cellAt (k * 2) (by omega)).trans p0
   have cw1 := (hown2.cellAt (k * 2 + 1) (by omega)).trans p1
   have fw := hown2.frozenAt (k * 2)
   have fw1 := hown2.frozenAt (k * 2 + 1)
   have st := ((hown2.stored (k * 2) (.int .i64 x)).1.stored (k * 2 + 1) (.int .i64 y)).1
   rw [← part_split ts k (x, y) e1] at st
   have be4 := (be3.setCell (p := ⟨w.heap.size, k * 2, none⟩) (Nat.le_refl _) (.int .i64 x)).setCell (p := ⟨w.heap.size, k * 2 + 1, none⟩) (Nat.le_refl _) (.int .i64 y)
   clear hown hown2 e1 c1 d1 be be1 hown1 be2 be3 p0 p1 pl
   go_wp2_with fail
   go_roundw
   case rel => exact ⟨k + 1, by omega, by go_num, be4, st⟩
   case measure => simp [intOf]; omega
  ·obtain rfl : k = ts.length := by omega
   rw [part_end] at hown
   have fin := Terms.own hown H3.out
   clear hown
   go_wp2_with fail
   go_ret
   exact ⟨_, rfl, be, fin⟩

set_option maxHeartbeats 800000 in
theorem toLin_any (own : Bool) (l h : Nat) (v : Value) (ts : List T) (w : World) (h1 : Terms own l h w v ts) (hw : h ≤ w.heap.size) (hlen : ts.length ≤ 1048576) :
  Calls Tryz.prog 84 #[.agg #[v]] w fun e w' => ∃ u, e = .returned (.agg #[u]) ∧ Below w.heap.size w w' ∧ Terms true w.heap.size w'.heap.size w' u ts := by
 go_enter Tryz.func84, Tryz.ntmps84
 go_wp2_with fail
 refine (toTermS_any own l h v ts _ (h1.keep (B := h) (by (repeat (with_reducible first | exact bR _ _ | assumption | refine bD ?_ | refine bN ?_ _ | refine bA ?_ _ | refine bS ?_ _))) (Nat.le_refl _)) (by first | with_reducible exact Nat.le_refl _ | (simp; done) | omega | (simp; omega) | exact Nat.le_refl _) hlen).mono ?_; rintro e w2 ⟨u, rfl, be2, ht⟩
 obtain ⟨a, ca, rfl, la, ba⟩ := ht.shape
 obtain ⟨hc, hf⟩ := bcell be2
 have hz := be2.size
 have be : Below w.heap.size w w2 := Below.trans (by (repeat (with_reducible first | exact bR _ _ | assumption | refine bD ?_ | refine bN ?_ _ | refine bA ?_ _ | refine bS ?_ _))) (be2.mono (by first | with_reducible exact Nat.le_refl _ | (simp; done) | omega | (simp; omega) | exact Nat.le_refl _))
 go_wp2_with fail
 refine bodyPost_ret (v := .agg #[.slice a ts.length ca]) (by simp [results, Tryz.results84, go_sem, hc]) rfl ⟨_, rfl, by (repeat (with_reducible first | exact bR _ _ | assumption | refine bD ?_ | refine bN ?_ _ | refine bA ?_ _ | refine bS ?_ _)), ?_⟩
 exact (ht.only (lo := w.heap.size) (hi := w.heap.size + 3) (by (repeat (first | with_reducible exact Only.refl _ _ _ | with_reducible assumption | with_reducible refine Only.drew ?_ | with_reducible refine odrewN ?_ _ | with_reducible refine Only.alloc ?_ _ | ((with_reducible refine oset ?_ ?_ ?_ _); (focus (first | with_reducible exact Nat.le_refl _ | (simp; done) | omega | (simp; omega) | exact Nat.le_refl _)); (focus (first | with_reducible exact Nat.le_refl _ | (simp; done) | omega | (simp; omega) | exact Nat.le_refl _)))))) (by simp) (by simp)).mono (by simp; omega) (by simp)

/-- What marking leaves: numbers that follow one another from k on. -/
def marks : Nat → Nat → List T
 | _, 0 => []
 | k, n + 1 => ((k : Int), (k : Int) + 1) :: marks (k + 2) n
theorem marks_length (k n : Nat) : (marks k n).length = n := by
 induction n generalizing k with
 | zero => rfl
 | succ n ih => simp [marks, ih]
theorem marks_at (k n j : Nat) (h : j < n) : (marks k n)[j]? = some (((k + 2 * j : Nat) : Int), ((k + 2 * j : Nat) : Int) + 1) := by
 induction n generalizing k j with
 | zero => omega
 | succ n ih =>
  cases j with
  | zero => simp [marks]
  | succ j =>
   simp only [marks, List.getElem?_cons_succ]
   rw [ih (k + 2) j (by omega), show k + 2 + 2 * j = k + 2 * (j + 1) from by omega]
theorem marks_fits (k n : Nat) (h : k + 2 * n ≤ 9223372036854775807) : ∀ t ∈ marks k n, Fits t.1 ∧ Fits t.2 := by
 intro t ht
 obtain ⟨j, hj, rfl⟩ := List.mem_iff_getElem.1 ht
 have hl := marks_length k n
 have := marks_at k n j (by omega)
 rw [List.getElem?_eq_getElem hj] at this
 simp only [Option.some.injEq] at this
 rw [this]
 unfold Fits
 simp only
 omega

/-- Behind j rounds of marking: the first j are marks. -/
def marked (ts : List T) (k j : Nat) : List T := marks k j ++ ts.drop j
theorem marked_length (ts : List T) (k j : Nat) (h : j ≤ ts.length) : (marked ts k j).length = ts.length := by unfold marked; simp [marks_length]; omega
theorem marked_at (ts : List T) (k j i : Nat) (t : T) (h : ts[i]? = some t) (hi : j ≤ i) : (marked ts k j)[i]? = some t := by
 unfold marked
 rw [List.getElem?_append_right (by rw [marks_length]; exact hi), marks_length, List.getElem?_drop, show j + (i - j) = i from by omega]
 exact h
theorem marks_snoc (k n : Nat) : marks k (n + 1) = marks k n ++ [(((k + 2 * n : Nat) : Int), ((k + 2 * n : Nat) : Int) + 1)] := by
 apply List.ext_getElem?
 intro j
 by_cases h : j < n
 ·rw [marks_at _ _ _ (by omega), List.getElem?_append_left (by rw [marks_length]; exact h), marks_at _ _ _ h]
 ·by_cases h2 : j = n
  ·subst h2
   rw [marks_at _ _ _ (by omega), List.getElem?_append_right (by rw [marks_length]; omega), marks_length, Nat.sub_self]
   rfl
  ·rw [List.getElem?_eq_none (by rw [marks_length]; omega), List.getElem?_eq_none (by simp [marks_length]; omega)]

/-- An element of a row of one's own is written. -/
theorem Terms.put {l h : Nat} {w : World} {b off n cap : Nat} {ts : List T} (ht : Terms true l h w (.slice (some ⟨b, off, none⟩) n cap) ts) {k : Nat} (hk : k < ts.length) (x y : Int) (fx : Fits x) (fy : Fits y) :
  Terms true l h ((w.setCell ⟨b, off + k * 2, none⟩ (.int .i64 x)).setCell ⟨b, off + k * 2 + 1, none⟩ (.int .i64 y)) (.slice (some ⟨b, off, none⟩) n cap) (ts.set k (x, y)) := by
 obtain ⟨a', cap', e0, h1, h2, h3, h4⟩ := ht
 simp only [Value.slice.injEq] at e0
 obtain ⟨rfl, rfl, rfl⟩ := e0
 have hfit : ∀ t ∈ ts.set k (x, y), Fits t.1 ∧ Fits t.2 := by
  intro t hm
  rcases List.mem_or_eq_of_mem_set hm with hm | rfl
  ·exact h3 t hm
  ·exact ⟨fx, fy⟩
 rcases h4 with h4 | ⟨b', off', e, hl, hlt, hf, hc⟩
 ·rw [h4] at hk; simp at hk
 ·simp only [Option.some.injEq, Addr.mk.injEq, and_true] at e
  obtain ⟨rfl, rfl⟩ := e
  obtain ⟨c0, c1⟩ := hc k _ (List.getElem?_eq_getElem hk)
  refine ⟨some ⟨b, off, none⟩, cap, by simp, by simpa using h1, h2, hfit, .inr ⟨b, off, rfl, hl, hlt, fun _ j => ?_, fun j t hj => ?_⟩⟩
  ·rw [World.frozen?_setCell, World.frozen?_setCell]; exact hf rfl j
  ·by_cases hjk : j = k
   ·subst hjk
    rw [List.getElem?_set_self hk] at hj
    simp only [Option.some.injEq] at hj
    subst hj
    refine ⟨?_, ?_⟩
    ·rw [World.cell?_setCell_other _ _ _ _ (by simp)]; exact World.cell?_setCell_same _ _ _ c0
    ·exact World.cell?_setCell_same _ _ _ ((World.cell?_setCell_other _ _ _ _ (by simp)).trans c1)
   ·rw [List.getElem?_set_ne (by omega)] at hj
    obtain ⟨d0, d1⟩ := hc j t hj
    refine ⟨?_, ?_⟩
    ·rw [World.cell?_setCell_other _ _ _ _ (by simp <;> omega), World.cell?_setCell_other _ _ _ _ (by simp <;> omega)]; exact d0
    ·rw [World.cell?_setCell_other _ _ _ _ (by simp <;> omega), World.cell?_setCell_other _ _ _ _ (by simp <;> omega)]; exact d1
theorem marked_set (ts : List T) (k j : Nat) (h : j < ts.length) : (marked ts k j).set j (((k + 2 * j : Nat) : Int), ((k + 2 * j : Nat) : Int) + 1) = marked ts k (j + 1) := by
 unfold marked
 rw [marks_snoc, List.set_append_right _ _ (by rw [marks_length]; exact Nat.le_refl _), marks_length, Nat.sub_self, List.drop_eq_getElem_cons h, List.set_cons_zero]
 simp

set_option maxRecDepth 100000 in
set_option maxHeartbeats 1600000 in
/-- Marking writes into the row alone. -/
theorem markTermS_any (l h : Nat) (v : Value) (ts : List T) (m : Nat) (w : World) (h1 : Terms true l h w v ts) (hw : h ≤ w.heap.size) (hlen : ts.length ≤ 4194304) (hm : m ≤ 16777216) :
  Calls Tryz.prog 94 #[v, .int .i64 m] w fun e w' => e = .returned (.int .i64 ((m + 2 * ts.length : Nat) : Int)) ∧ Only l h w w' ∧ Terms true l h w' v (marks m ts.length) := by
 obtain ⟨a, ca, rfl, la, ba⟩ := h1.shape
 have hfit := h1.fits
 go_enter Tryz.func94, Tryz.ntmps94
 go_wp2_with fail
 go_loopw [1, 5] (fun n i wr => ∃ j : Nat, j ≤ ts.length ∧ i = .int .i64 j ∧ n = .int .i64 ((m + 2 * j : Nat) : Int) ∧ Only l h w wr ∧ Terms true l h wr (.slice a ts.length ca) (marked ts m j)) (fun _ i _ => ts.length - (intOf i).toNat)
 case atStart => exact ⟨0, Nat.zero_le _, rfl, rfl, Only.refl _ _ _, h1⟩
 case round =>
  obtain ⟨j, hj, rfl, rfl, on, ht⟩ := hrel
  have hml := marked_length ts m j hj
  by_cases hlt : j < ts.length
  ·obtain ⟨a', cap', e0, q1, q2, q3, q4⟩ := id ht
   simp only [Value.slice.injEq] at e0
   obtain ⟨rfl, _, rfl⟩ := e0
   rcases q4 with q4 | ⟨b, off, rfl, r1, r2, r3, r4⟩
   ·rw [q4] at hml; simp at hml; omega
   have hlt2 : j < (marked ts m j).length := by omega
   have put := ht.put hlt2 ((m + 2 * j : Nat) : Int) (((m + 2 * j : Nat) : Int) + 1) (by unfold Fits; omega) (by unfold Fits; omega)
   rw [marked_set ts m j hlt] at put
   obtain ⟨c0, c1⟩ := r4 j _ (List.getElem?_eq_getElem hlt2)
   have fz := r3 rfl (off + j * 2)
   have fz1 := r3 rfl (off + j * 2 + 1)
   have on' := (on.setCell (p := ⟨b, off + j * 2, none⟩) r1 r2 (.int .i64 ((m + 2 * j : Nat) : Int))).setCell (p := ⟨b, off + j * 2 + 1, none⟩) r1 r2 (.int .i64 (((m + 2 * j : Nat) : Int) + 1))
   clear ht q3 r4 r3 hfit hml h1 on
   have c1' : ∀ u, (wr.setCell ⟨b, off + j * 2, none⟩ u).cell? ⟨b, off + j * 2 + 1, none⟩ = some (.int .i64 (marked ts m j)[j].2) := fun u => (World.cell?_setCell_other _ _ _ _ (by simp)).trans c1
   clear c1
   obtain ⟨q, hq⟩ : ∃ q : Int, q = ((m + 2 * j : Nat) : Int) := ⟨_, rfl⟩
   rw [← hq] at put on' ⊢
   have q0 : 0 ≤ q := by omega
   have q1 : q ≤ 100000000 := by omega
   have HQ := Lib.hid hq
   clear hq
   go_wp2_with fail
   go_roundw
   case rel => exact ⟨j + 1, by omega, by go_num, by rw [HQ.out]; go_num, on', put⟩
   case measure => simp [intOf]; omega
  ·obtain rfl : j = ts.length := by omega
   have e : marked ts m ts.length = marks m ts.length := by simp [marked]
   rw [e] at ht
   go_wp2_with fail
   go_ret
   exact ⟨rfl, on, ht⟩

end Go.Proofs.YthipgpbapdambaaGreat.L

/- Shapes: what a few cells read as, with slices within; slices of whatever has a shape. -/
namespace Go.Proofs.YthipgpbapdambaaGreat.L
open Go.RowKit Go.Proofs.YthipgpbapdambaaGreat.S
set_option linter.unusedVariables false
set_option linter.unusedSimpArgs false

/-- The blocks from l on and below h are the same in both worlds. -/
def Same (l h : Nat) (w w' : World) : Prop := ∀ k, l ≤ k → k < h → w'.heap[k]? = w.heap[k]?
theorem Same.of_below {l h B : Nat} {w w' : World} (hb : Below B w w') (hl : h ≤ B) : Same l h w w' := fun k _ hk => hb.block k (Nat.lt_of_lt_of_le hk hl)
theorem Same.of_only {l h lo hi : Nat} {w w' : World} (ho : Only lo hi w w') (hd : h ≤ lo ∨ hi ≤ l) (hs : h ≤ w.heap.size) : Same l h w w' := fun k h1 h2 => ho.block k (by omega) (by omega)
theorem Same.sub {l h l' h' : Nat} {w w' : World} (s : Same l h w w') (h1 : l ≤ l') (h2 : h' ≤ h) : Same l' h' w w' := fun k a b => s k (by omega) (by omega)
theorem Same.cell {l h b : Nat} {w w' : World} (s : Same l h w w') (h1 : l ≤ b) (h2 : b < h) (j : Nat) : w'.cell? ⟨b, j, none⟩ = w.cell? ⟨b, j, none⟩ := World.cell?_of_block (a := ⟨b, j, none⟩) (s b h1 h2)
theorem Same.frozen {l h b : Nat} {w w' : World} (s : Same l h w w') (h1 : l ≤ b) (h2 : b < h) (j : Nat) : w'.frozen? ⟨b, j, none⟩ = w.frozen? ⟨b, j, none⟩ := World.frozen?_of_block (a := ⟨b, j, none⟩) (s b h1 h2)

theorem Terms.agree {own : Bool} {l h : Nat} {w w' : World} {v : Value} {ts : List T} (ht : Terms own l h w v ts) (hs : Same l h w w') : Terms own l h w' v ts := by
 obtain ⟨a, cap, rfl, h1, h2, h3, h4⟩ := ht
 refine ⟨a, cap, rfl, h1, h2, h3, ?_⟩
 rcases h4 with h4 | ⟨b, off, e, hl, hlt, hf, hc⟩
 ·exact .inl h4
 ·exact .inr ⟨b, off, e, hl, hlt, fun hw j => by rw [hs.frozen hl hlt]; exact hf hw j, fun j t hj => by rw [hs.cell hl hlt, hs.cell hl hlt]; exact hc j t hj⟩

/-- What wd cells read as; all memory behind them lies in the blocks from l on and below h; own: it may be written, and no two parts share a block. -/
structure Shape (α : Type) where
 wd : Nat
 rep : Bool → Nat → Nat → World → List Value → α → Prop
 len : ∀ {o l h w cs x}, rep o l h w cs x → cs.length = wd
 agree : ∀ {o l h w w' cs x}, rep o l h w cs x → Same l h w w' → rep o l h w' cs x
 mono : ∀ {o l h l' h' w cs x}, rep o l h w cs x → l' ≤ l → h ≤ h' → rep o l' h' w cs x

namespace Shape
def lin : Shape (List T) where
 wd := 1
 rep o l h w cs x := ∃ v, cs = [v] ∧ Terms o l h w v x
 len h := by obtain ⟨v, rfl, _⟩ := h; rfl
 agree h s := by obtain ⟨v, e, t⟩ := h; exact ⟨v, e, t.agree s⟩
 mono h a b := by obtain ⟨v, e, t⟩ := h; exact ⟨v, e, t.mono a b⟩
/-- A slice whose elements have a shape. -/
def rowRep {α : Type} (E : Shape α) (o : Bool) (l h : Nat) (w : World) (cs : List Value) (xs : List α) : Prop :=
 ∃ a cap, cs = [.slice a xs.length cap] ∧ xs.length ≤ cap ∧ cap ≤ 9223372036854775807 ∧
  (xs = [] ∨ ∃ b off, a = some ⟨b, off, none⟩ ∧ l ≤ b ∧ b < h ∧ (o = true → ∀ j, w.frozen? ⟨b, j, none⟩ = false) ∧
   ∃ (C : Nat → List Value) (L H : Nat → Nat), (o = true → (∀ j, j < xs.length → b < L j ∨ H j ≤ b) ∧ ∀ i j, i < j → j < xs.length → H i ≤ L j ∨ H j ≤ L i) ∧
    ∀ j x, xs[j]? = some x → l ≤ L j ∧ H j ≤ h ∧ (∀ f c, (C j)[f]? = some c → w.cell? ⟨b, off + j * E.wd + f, none⟩ = some c) ∧ E.rep o (L j) (H j) w (C j) x)

def row {α : Type} (E : Shape α) : Shape (List α) where
 wd := 1
 rep := rowRep E
 len h := by obtain ⟨a, cap, rfl, _⟩ := h; rfl
 agree h s := by
  obtain ⟨a, cap, e, h1, h2, h4⟩ := h
  refine ⟨a, cap, e, h1, h2, ?_⟩
  rcases h4 with h4 | ⟨b, off, ea, hl, hlt, hf, C, L, H, hd, hc⟩
  ·exact .inl h4
  ·refine .inr ⟨b, off, ea, hl, hlt, fun ho j => by rw [s.frozen hl hlt]; exact hf ho j, C, L, H, hd, fun j x hj => ?_⟩
   obtain ⟨a1, a2, a3, a4⟩ := hc j x hj
   exact ⟨a1, a2, fun f c hfc => by rw [s.cell hl hlt]; exact a3 f c hfc, E.agree a4 (s.sub a1 a2)⟩
 mono h p q := by
  obtain ⟨a, cap, e, h1, h2, h4⟩ := h
  refine ⟨a, cap, e, h1, h2, ?_⟩
  rcases h4 with h4 | ⟨b, off, ea, hl, hlt, hf, C, L, H, hd, hc⟩
  ·exact .inl h4
  ·refine .inr ⟨b, off, ea, by omega, by omega, hf, C, L, H, hd, fun j x hj => ?_⟩
   obtain ⟨a1, a2, a3, a4⟩ := hc j x hj
   exact ⟨by omega, by omega, a3, a4⟩

variable {α : Type} {E : Shape α}
theorem keep {o : Bool} {l h B : Nat} {w w' : World} {cs : List Value} {x : α} (t : E.rep o l h w cs x) (hb : Below B w w') (hl : h ≤ B) : E.rep o l h w' cs x := E.agree t (Same.of_below hb hl)
theorem only {o : Bool} {l h lo hi : Nat} {w w' : World} {cs : List Value} {x : α} (t : E.rep o l h w cs x) (ho : Only lo hi w w') (hd : h ≤ lo ∨ hi ≤ l) (hs : h ≤ w.heap.size) : E.rep o l h w' cs x := E.agree t (Same.of_only ho hd hs)
theorem row_nil (o : Bool) (l h : Nat) (w : World) : (row E).rep o l h w [.slice none 0 0] [] := ⟨none, 0, rfl, Nat.le_refl _, by omega, .inl rfl⟩
theorem row_shape {o : Bool} {l h : Nat} {w : World} {cs : List Value} {xs : List α} (t : (row E).rep o l h w cs xs) : ∃ a cap, cs = [.slice a xs.length cap] ∧ xs.length ≤ cap ∧ cap ≤ 9223372036854775807 := by
 obtain ⟨a, cap, e, h1, h2, _⟩ := t
 exact ⟨a, cap, e, h1, h2⟩

/-- From w to w' only the cells from s on, n of them, of block b may have been written, and the blocks from L on and below H; new blocks may have come. -/
structure Chg (b s n L H : Nat) (w w' : World) : Prop where
 size : w.heap.size ≤ w'.heap.size
 block : ∀ k, k < w.heap.size → k ≠ b → (k < L ∨ H ≤ k) → w'.heap[k]? = w.heap[k]?
 cell : ∀ i, (i < s ∨ s + n ≤ i) → w'.cell? ⟨b, i, none⟩ = w.cell? ⟨b, i, none⟩
 frozen : ∀ i, w'.frozen? ⟨b, i, none⟩ = w.frozen? ⟨b, i, none⟩
theorem Chg.refl (b s n L H : Nat) (w : World) : Chg b s n L H w w := ⟨Nat.le_refl _, fun _ _ _ _ => rfl, fun _ _ => rfl, fun _ => rfl⟩
theorem Chg.setCell {b s n L H : Nat} {w w' : World} (c : Chg b s n L H w w') {i : Nat} (h1 : s ≤ i) (h2 : i < s + n) (u : Value) : Chg b s n L H w (w'.setCell ⟨b, i, none⟩ u) where
 size := by simpa [World.setCell] using c.size
 block k hk hb ho := by rw [Below.heap_setCell _ _ _ _ (by first | exact hb | simpa using hb)]; exact c.block k hk hb ho
 cell j hj := by rw [World.cell?_setCell_other _ _ _ _ (by first | (simp; done) | (simp; omega))]; exact c.cell j hj
 frozen j := by rw [World.frozen?_setCell]; exact c.frozen j
theorem Chg.only {b s n L H lo hi : Nat} {w w' w'' : World} (c : Chg b s n L H w w') (ho : Only lo hi w' w'') (h1 : L ≤ lo) (h2 : hi ≤ H) (hb : b < lo ∨ hi ≤ b) (hs : b < w.heap.size) : Chg b s n L H w w'' where
 size := Nat.le_trans c.size ho.size
 block k hk hkb hkh := by rw [ho.block k (Nat.lt_of_lt_of_le hk c.size) (by omega)]; exact c.block k hk hkb hkh
 cell j hj := by rw [ho.cell (Nat.lt_of_lt_of_le hs c.size) hb]; exact c.cell j hj
 frozen j := by rw [ho.frozen (Nat.lt_of_lt_of_le hs c.size) hb]; exact c.frozen j
theorem Chg.below {b s n L H B : Nat} {w w' w'' : World} (c : Chg b s n L H w w') (hb : Below B w' w'') (hB : w.heap.size ≤ B) (hs : b < w.heap.size) : Chg b s n L H w w'' where
 size := Nat.le_trans c.size hb.size
 block k hk hkb hkh := by rw [hb.block k (Nat.lt_of_lt_of_le hk hB)]; exact c.block k hk hkb hkh
 cell j hj := by rw [hb.cell (p := ⟨b, j, none⟩) (Nat.lt_of_lt_of_le hs hB)]; exact c.cell j hj
 frozen j := by rw [hb.frozen (p := ⟨b, j, none⟩) (Nat.lt_of_lt_of_le hs hB)]; exact c.frozen j

theorem idx_lt {i j d f : Nat} (hij : i < j) (hf : f < d) : i * d + f < j * d := by
 have h := Nat.mul_le_mul_right d (show i + 1 ≤ j from hij)
 rw [Nat.add_mul, Nat.one_mul] at h
 omega
theorem idx_ne {i j d f off : Nat} (hij : i ≠ j) (hf : f < d) : off + i * d + f < off + j * d ∨ off + j * d + d ≤ off + i * d + f := by
 rcases Nat.lt_or_gt_of_ne hij with h | h
 ·have := idx_lt h hf; omega
 ·have h := Nat.mul_le_mul_right d (show j + 1 ≤ i from h)
  rw [Nat.add_mul, Nat.one_mul] at h
  omega

/-- The element j of a slice, and what the slice reads as when only this element has been written. -/
theorem row_focus {o : Bool} {l h : Nat} {w : World} {a : Option Addr} {n cap : Nat} {xs : List α} (t : (row E).rep o l h w [.slice a n cap] xs) {j : Nat} (hj : j < xs.length) :
  ∃ b off cs L H, a = some ⟨b, off, none⟩ ∧ l ≤ b ∧ b < h ∧ l ≤ L ∧ H ≤ h ∧ (∀ f c, cs[f]? = some c → w.cell? ⟨b, off + j * E.wd + f, none⟩ = some c) ∧ E.rep o L H w cs xs[j] ∧
   (o = true → (b < L ∨ H ≤ b) ∧ (∀ i, w.frozen? ⟨b, i, none⟩ = false) ∧
    ∀ w' cs' x' L' H' h', Chg b (off + j * E.wd) E.wd L H w w' → (∀ f c, cs'[f]? = some c → w'.cell? ⟨b, off + j * E.wd + f, none⟩ = some c) → E.rep true L' H' w' cs' x' → h ≤ w.heap.size → h ≤ h' → (L ≤ L' ∧ H' ≤ H ∨ h ≤ L' ∧ H' ≤ h') →
     (row E).rep true l h' w' [.slice a n cap] (xs.set j x')) := by
 obtain ⟨a0, cap0, e0, h1, h2, h4⟩ := t
 simp only [List.cons.injEq, Value.slice.injEq, and_true] at e0
 obtain ⟨rfl, rfl, rfl⟩ := e0
 rcases h4 with h4 | ⟨b, off, ea, hl, hlt, hf, C, L, H, hd, hc⟩
 ·subst h4; simp at hj
 obtain ⟨a1, a2, a3, a4⟩ := hc j _ (List.getElem?_eq_getElem hj)
 refine ⟨b, off, C j, L j, H j, ea, hl, hlt, a1, a2, a3, a4, fun ho => ⟨(hd ho).1 j hj, hf ho, fun w' cs' x' L' H' h' hch hcs hrep hsz hh hint => ?_⟩⟩
 subst ho
 obtain ⟨d1, d2⟩ := hd rfl
 refine ⟨a, cap, by simp, by simpa using h1, h2, .inr ⟨b, off, ea, hl, by omega, fun _ i => by rw [hch.frozen]; exact hf rfl i, fun i => if i = j then cs' else C i, fun i => if i = j then L' else L i, fun i => if i = j then H' else H i, fun _ => ⟨fun i hi => ?_, fun i k hik hk => ?_⟩, fun i x hi => ?_⟩⟩
 ·have hi' : i < xs.length := by simpa using hi
  by_cases e : i = j
  ·simp only [e, if_true]
   have := d1 j hj
   omega
  ·simp only [e, if_false]; exact d1 i hi'
 ·have hk' : k < xs.length := by simpa using hk
  by_cases e : i = j
  ·subst e
   have e2 : k ≠ i := by omega
   simp only [if_true, e2, if_false]
   have := d2 i k hik hk'
   obtain ⟨b1, b2, _⟩ := hc k _ (List.getElem?_eq_getElem hk')
   omega
  ·by_cases e2 : k = j
   ·subst e2
    simp only [if_true, e, if_false]
    have := d2 i k hik hk'
    obtain ⟨b1, b2, _⟩ := hc i _ (List.getElem?_eq_getElem (show i < xs.length by omega))
    omega
   ·simp only [e, e2, if_false]; exact d2 i k hik hk'
 ·by_cases e : i = j
  ·subst e
   rw [List.getElem?_set_self hj] at hi
   simp only [Option.some.injEq] at hi
   subst hi
   simp only [if_true]
   exact ⟨by omega, by omega, hcs, hrep⟩
  ·rw [List.getElem?_set_ne (by omega)] at hi
   have hil : i < xs.length := (List.getElem?_eq_some_iff.1 hi).1
   simp only [e, if_false]
   obtain ⟨b1, b2, b3, b4⟩ := hc i x hi
   refine ⟨b1, by omega, fun f c hfc => ?_, E.agree b4 (fun k k1 k2 => hch.block k (by omega) ?_ ?_)⟩
   ·have hfl : f < E.wd := by rw [← E.len b4]; exact (List.getElem?_eq_some_iff.1 hfc).1
    rw [hch.cell _ (idx_ne e hfl)]
    exact b3 f c hfc
   ·have := d1 i hil; omega
   ·rcases Nat.lt_or_gt_of_ne e with q | q
    ·have := d2 i j q hj; omega
    ·have := d2 j i q hil; omega

/-- Only for reading: the element's memory lies where the slice's does. -/
theorem row_at {o : Bool} {l h : Nat} {w : World} {a : Option Addr} {n cap : Nat} {xs : List α} (t : (row E).rep o l h w [.slice a n cap] xs) {j : Nat} (hj : j < xs.length) :
  ∃ b off cs, a = some ⟨b, off, none⟩ ∧ l ≤ b ∧ b < h ∧ (∀ f c, cs[f]? = some c → w.cell? ⟨b, off + j * E.wd + f, none⟩ = some c) ∧ E.rep o l h w cs xs[j] := by
 obtain ⟨b, off, cs, L, H, e, h1, h2, h3, h4, hc, hr, _⟩ := row_focus t hj
 exact ⟨b, off, cs, e, h1, h2, hc, E.mono hr h3 h4⟩

/-- The cells of a list of chunks of the same width. -/
theorem flat_at {d : Nat} : ∀ {css : List (List Value)} (hd : ∀ c ∈ css, c.length = d) {j f : Nat} {cs : List Value} (h : css[j]? = some cs) (hf : f < d), css.flatten[j * d + f]? = cs[f]?
 | [], _, _, _, _, h, _ => by simp at h
 | c :: r, hd, j, f, cs, h, hf => by
  have hc : c.length = d := hd c (by simp)
  cases j with
  | zero =>
   simp at h; subst h
   rw [List.flatten_cons, List.getElem?_append_left (by omega), Nat.zero_mul, Nat.zero_add]
  | succ j =>
   simp at h
   rw [List.flatten_cons, List.getElem?_append_right (by rw [hc, Nat.add_mul]; omega), hc, show (j + 1) * d + f - d = j * d + f from by rw [Nat.add_mul]; omega]
   exact flat_at (fun c hc => hd c (by simp [hc])) h hf
theorem flat_length {d : Nat} : ∀ {css : List (List Value)} (hd : ∀ c ∈ css, c.length = d), css.flatten.length = css.length * d
 | [], _ => by simp
 | c :: r, hd => by
  have := flat_length (fun c hc => hd c (by simp [hc]) : ∀ c ∈ r, c.length = d)
  rw [List.flatten_cons, List.length_append, this, hd c (by simp), List.length_cons, Nat.add_mul]; omega

/-- A row of one's own reads as a slice of its elements. -/
theorem row_owns {w : World} {base : Nat} {e : TypeId} {v : Value} {css : List (List Value)} {xs : List α} {l h : Nat} (hr : w.ownsRow base e E.wd v xs.length css.flatten) (hcl : css.length = xs.length) (hd : ∀ c ∈ css, c.length = E.wd)
  (hl : l ≤ base) (hh : w.heap.size ≤ h) (L H : Nat → Nat) (ho : (∀ g o n cap, v = .slice (some ⟨g, o, none⟩) n cap → ∀ j, j < xs.length → g < L j ∨ H j ≤ g) ∧ ∀ i j, i < j → j < xs.length → H i ≤ L j ∨ H j ≤ L i)
  (hx : ∀ j x cs, xs[j]? = some x → css[j]? = some cs → l ≤ L j ∧ H j ≤ h ∧ E.rep true (L j) (H j) w cs x) : (row E).rep true l h w [v] xs := by
 rcases id hr.2 with ⟨rfl, h0⟩ | ⟨g, cap, cur, rfl, hb, hg, hc, hcm, hs, ht⟩
 ·have : xs = [] := List.eq_nil_of_length_eq_zero h0
  subst this
  exact row_nil _ _ _ _
 ·refine ⟨some ⟨g, 0, none⟩, cap, rfl, hc, by unfold maxLen at hcm; omega, .inr ⟨g, 0, rfl, by omega, Nat.lt_of_lt_of_le (hr.lt g rfl).2 hh, fun _ j => hr.frozenAt j, fun j => css[j]?.getD [], L, H, fun _ => ⟨ho.1 g 0 _ _ rfl, ho.2⟩, fun j x hj => ?_⟩⟩
  have hjl : j < xs.length := (List.getElem?_eq_some_iff.1 hj).1
  have hcs : css[j]? = some css[j] := List.getElem?_eq_getElem (by omega)
  obtain ⟨q1, q2, q3⟩ := hx j x _ hj hcs
  have e : css[j]?.getD [] = css[j] := by rw [hcs]; rfl
  simp only [e]
  refine ⟨q1, q2, fun f c hfc => ?_, q3⟩
  have hf : f < E.wd := by rw [← E.len q3]; exact (List.getElem?_eq_some_iff.1 hfc).1
  rw [show 0 + j * E.wd + f = j * E.wd + f from by omega, hr.cellAt _ (idx_lt hjl hf), flat_at hd hcs hf]
  exact hfc
end Shape
end Go.Proofs.YthipgpbapdambaaGreat.L

/- Hints, constraints, systems: what they read as. -/
namespace Go.Proofs.YthipgpbapdambaaGreat.L
open Go.RowKit Go.Proofs.YthipgpbapdambaaGreat.S
set_option linter.unusedVariables false
set_option linter.unusedSimpArgs false

structure HintC where
 kind : Int
 a : List T
 b : List T
 k : Int
structure ConC where
 a : List T
 b : List T
 c : List T
structure SysC where
 ins : Int
 outs : List (List T)
 hints : List HintC
 cons : List ConC

def hintSh : Shape HintC where
 wd := 4
 rep o l h w cs x := ∃ va vb l1 h1 l2 h2, cs = [.int .i64 x.kind, va, vb, .int .i64 x.k] ∧ Fits x.kind ∧ Fits x.k ∧ l ≤ l1 ∧ h1 ≤ h ∧ l ≤ l2 ∧ h2 ≤ h ∧ (o = true → h1 ≤ l2 ∨ h2 ≤ l1) ∧ Terms o l1 h1 w va x.a ∧ Terms o l2 h2 w vb x.b
 len h := by obtain ⟨va, vb, l1, h1, l2, h2, rfl, _⟩ := h; rfl
 agree h s := by
  obtain ⟨va, vb, l1, h1, l2, h2, e, f0, f3, p1, p2, p3, p4, d, ta, tb⟩ := h
  exact ⟨va, vb, l1, h1, l2, h2, e, f0, f3, p1, p2, p3, p4, d, ta.agree (s.sub p1 p2), tb.agree (s.sub p3 p4)⟩
 mono h a b := by
  obtain ⟨va, vb, l1, h1, l2, h2, e, f0, f3, p1, p2, p3, p4, d, ta, tb⟩ := h
  exact ⟨va, vb, l1, h1, l2, h2, e, f0, f3, by omega, by omega, by omega, by omega, d, ta, tb⟩
def conSh : Shape ConC where
 wd := 3
 rep o l h w cs x := ∃ va vb vc l1 h1 l2 h2 l3 h3, cs = [va, vb, vc] ∧ l ≤ l1 ∧ h1 ≤ h ∧ l ≤ l2 ∧ h2 ≤ h ∧ l ≤ l3 ∧ h3 ≤ h ∧ (o = true → (h1 ≤ l2 ∨ h2 ≤ l1) ∧ (h1 ≤ l3 ∨ h3 ≤ l1) ∧ (h2 ≤ l3 ∨ h3 ≤ l2)) ∧ Terms o l1 h1 w va x.a ∧ Terms o l2 h2 w vb x.b ∧ Terms o l3 h3 w vc x.c
 len h := by obtain ⟨va, vb, vc, l1, h1, l2, h2, l3, h3, rfl, _⟩ := h; rfl
 agree h s := by
  obtain ⟨va, vb, vc, l1, h1, l2, h2, l3, h3, e, p1, p2, p3, p4, p5, p6, d, ta, tb, tc⟩ := h
  exact ⟨va, vb, vc, l1, h1, l2, h2, l3, h3, e, p1, p2, p3, p4, p5, p6, d, ta.agree (s.sub p1 p2), tb.agree (s.sub p3 p4), tc.agree (s.sub p5 p6)⟩
 mono h a b := by
  obtain ⟨va, vb, vc, l1, h1, l2, h2, l3, h3, e, p1, p2, p3, p4, p5, p6, d, ta, tb, tc⟩ := h
  exact ⟨va, vb, vc, l1, h1, l2, h2, l3, h3, e, by omega, by omega, by omega, by omega, by omega, by omega, d, ta, tb, tc⟩

/-- Slices of combinations, of hints, of constraints. -/
def LinS (o : Bool) (l h : Nat) (w : World) (v : Value) (xs : List (List T)) : Prop := (Shape.row Shape.lin).rep o l h w [v] xs
def HintS (o : Bool) (l h : Nat) (w : World) (v : Value) (xs : List HintC) : Prop := (Shape.row hintSh).rep o l h w [v] xs
def ConS (o : Bool) (l h : Nat) (w : World) (v : Value) (xs : List ConC) : Prop := (Shape.row conSh).rep o l h w [v] xs

section
variable {o : Bool} {l h : Nat} {w w' : World} {v : Value}
theorem LinS.keep {B : Nat} {xs : List (List T)} (t : LinS o l h w v xs) (hb : Below B w w') (hl : h ≤ B) : LinS o l h w' v xs := Shape.keep (E := Shape.row Shape.lin) t hb hl
theorem HintS.keep {B : Nat} {xs : List HintC} (t : HintS o l h w v xs) (hb : Below B w w') (hl : h ≤ B) : HintS o l h w' v xs := Shape.keep (E := Shape.row hintSh) t hb hl
theorem ConS.keep {B : Nat} {xs : List ConC} (t : ConS o l h w v xs) (hb : Below B w w') (hl : h ≤ B) : ConS o l h w' v xs := Shape.keep (E := Shape.row conSh) t hb hl
theorem LinS.agree {xs : List (List T)} (t : LinS o l h w v xs) (s : Same l h w w') : LinS o l h w' v xs := (Shape.row Shape.lin).agree t s
theorem HintS.agree {xs : List HintC} (t : HintS o l h w v xs) (s : Same l h w w') : HintS o l h w' v xs := (Shape.row hintSh).agree t s
theorem ConS.agree {xs : List ConC} (t : ConS o l h w v xs) (s : Same l h w w') : ConS o l h w' v xs := (Shape.row conSh).agree t s
theorem LinS.mono {l' h' : Nat} {xs : List (List T)} (t : LinS o l h w v xs) (a : l' ≤ l) (b : h ≤ h') : LinS o l' h' w v xs := (Shape.row Shape.lin).mono t a b
theorem HintS.mono {l' h' : Nat} {xs : List HintC} (t : HintS o l h w v xs) (a : l' ≤ l) (b : h ≤ h') : HintS o l' h' w v xs := (Shape.row hintSh).mono t a b
theorem ConS.mono {l' h' : Nat} {xs : List ConC} (t : ConS o l h w v xs) (a : l' ≤ l) (b : h ≤ h') : ConS o l' h' w v xs := (Shape.row conSh).mono t a b
theorem LinS.shape {xs : List (List T)} (t : LinS o l h w v xs) : ∃ a cap, v = .slice a xs.length cap ∧ xs.length ≤ cap ∧ cap ≤ 9223372036854775807 := by
 obtain ⟨a, cap, e, h1, h2⟩ := Shape.row_shape (E := Shape.lin) t; simp only [List.cons.injEq, and_true] at e; exact ⟨a, cap, e, h1, h2⟩
theorem HintS.shape {xs : List HintC} (t : HintS o l h w v xs) : ∃ a cap, v = .slice a xs.length cap ∧ xs.length ≤ cap ∧ cap ≤ 9223372036854775807 := by
 obtain ⟨a, cap, e, h1, h2⟩ := Shape.row_shape (E := hintSh) t; simp only [List.cons.injEq, and_true] at e; exact ⟨a, cap, e, h1, h2⟩
theorem ConS.shape {xs : List ConC} (t : ConS o l h w v xs) : ∃ a cap, v = .slice a xs.length cap ∧ xs.length ≤ cap ∧ cap ≤ 9223372036854775807 := by
 obtain ⟨a, cap, e, h1, h2⟩ := Shape.row_shape (E := conSh) t; simp only [List.cons.injEq, and_true] at e; exact ⟨a, cap, e, h1, h2⟩
theorem LinS.nil : LinS o l h w (.slice none 0 0) [] := Shape.row_nil (E := Shape.lin) _ _ _ _
theorem HintS.nil : HintS o l h w (.slice none 0 0) [] := Shape.row_nil (E := hintSh) _ _ _ _
theorem ConS.nil : ConS o l h w (.slice none 0 0) [] := Shape.row_nil (E := conSh) _ _ _ _

theorem LinS.at {a : Option Addr} {n cap : Nat} {xs : List (List T)} (t : LinS o l h w (.slice a n cap) xs) {j : Nat} (hj : j < xs.length) :
  ∃ b off u, a = some ⟨b, off, none⟩ ∧ l ≤ b ∧ b < h ∧ w.cell? ⟨b, off + j, none⟩ = some u ∧ Terms o l h w u xs[j] := by
 obtain ⟨b, off, cs, e, h1, h2, hc, u, rfl, tu⟩ := Shape.row_at (E := Shape.lin) t hj
 have := hc 0 u rfl
 rw [show Shape.lin.wd = 1 from rfl, Nat.mul_one, Nat.add_zero] at this
 exact ⟨b, off, u, e, h1, h2, this, tu⟩
theorem HintS.at {a : Option Addr} {n cap : Nat} {xs : List HintC} (t : HintS o l h w (.slice a n cap) xs) {j : Nat} (hj : j < xs.length) :
  ∃ b off va vb, a = some ⟨b, off, none⟩ ∧ l ≤ b ∧ b < h ∧ w.cell? ⟨b, off + j * 4, none⟩ = some (.int .i64 xs[j].kind) ∧ w.cell? ⟨b, off + j * 4 + 1, none⟩ = some va ∧ w.cell? ⟨b, off + j * 4 + 2, none⟩ = some vb ∧ w.cell? ⟨b, off + j * 4 + 3, none⟩ = some (.int .i64 xs[j].k) ∧
   Fits xs[j].kind ∧ Fits xs[j].k ∧ Terms o l h w va xs[j].a ∧ Terms o l h w vb xs[j].b := by
 obtain ⟨b, off, cs, e, h1, h2, hc, va, vb, l1, h1', l2, h2', rfl, f0, f3, p1, p2, p3, p4, d, ta, tb⟩ := Shape.row_at (E := hintSh) t hj
 exact ⟨b, off, va, vb, e, h1, h2, hc 0 _ rfl, hc 1 _ rfl, hc 2 _ rfl, hc 3 _ rfl, f0, f3, ta.mono p1 p2, tb.mono p3 p4⟩
theorem ConS.at {a : Option Addr} {n cap : Nat} {xs : List ConC} (t : ConS o l h w (.slice a n cap) xs) {j : Nat} (hj : j < xs.length) :
  ∃ b off va vb vc, a = some ⟨b, off, none⟩ ∧ l ≤ b ∧ b < h ∧ w.cell? ⟨b, off + j * 3, none⟩ = some va ∧ w.cell? ⟨b, off + j * 3 + 1, none⟩ = some vb ∧ w.cell? ⟨b, off + j * 3 + 2, none⟩ = some vc ∧
   Terms o l h w va xs[j].a ∧ Terms o l h w vb xs[j].b ∧ Terms o l h w vc xs[j].c := by
 obtain ⟨b, off, cs, e, h1, h2, hc, va, vb, vc, l1, h1', l2, h2', l3, h3', rfl, p1, p2, p3, p4, p5, p6, d, ta, tb, tc⟩ := Shape.row_at (E := conSh) t hj
 exact ⟨b, off, va, vb, vc, e, h1, h2, hc 0 _ rfl, hc 1 _ rfl, hc 2 _ rfl, ta.mono p1 p2, tb.mono p3 p4, tc.mono p5 p6⟩

end

/-- A system's four fields read so. -/
def SysR (o : Bool) (l h : Nat) (w : World) (vi vo vh vc : Value) (s : SysC) : Prop :=
 vi = .int .i64 s.ins ∧ Fits s.ins ∧ ∃ l1 h1 l2 h2 l3 h3, l ≤ l1 ∧ h1 ≤ h ∧ l ≤ l2 ∧ h2 ≤ h ∧ l ≤ l3 ∧ h3 ≤ h ∧ (o = true → (h1 ≤ l2 ∨ h2 ≤ l1) ∧ (h1 ≤ l3 ∨ h3 ≤ l1) ∧ (h2 ≤ l3 ∨ h3 ≤ l2)) ∧
  LinS o l1 h1 w vo s.outs ∧ HintS o l2 h2 w vh s.hints ∧ ConS o l3 h3 w vc s.cons
section
variable {o : Bool} {l h : Nat} {w w' : World} {vi vo vh vc : Value} {s : SysC}
theorem SysR.agree (t : SysR o l h w vi vo vh vc s) (a : Same l h w w') : SysR o l h w' vi vo vh vc s := by
 obtain ⟨e, f, l1, h1, l2, h2, l3, h3, p1, p2, p3, p4, p5, p6, d, t1, t2, t3⟩ := t
 exact ⟨e, f, l1, h1, l2, h2, l3, h3, p1, p2, p3, p4, p5, p6, d, t1.agree (a.sub p1 p2), t2.agree (a.sub p3 p4), t3.agree (a.sub p5 p6)⟩
theorem SysR.keep {B : Nat} (t : SysR o l h w vi vo vh vc s) (hb : Below B w w') (hl : h ≤ B) : SysR o l h w' vi vo vh vc s := t.agree (Same.of_below hb hl)
theorem SysR.only {lo hi : Nat} (t : SysR o l h w vi vo vh vc s) (ho : Only lo hi w w') (hd : h ≤ lo ∨ hi ≤ l) (hs : h ≤ w.heap.size) : SysR o l h w' vi vo vh vc s := t.agree (Same.of_only ho hd hs)
theorem SysR.mono {l' h' : Nat} (t : SysR o l h w vi vo vh vc s) (a : l' ≤ l) (b : h ≤ h') : SysR o l' h' w vi vo vh vc s := by
 obtain ⟨e, f, l1, h1, l2, h2, l3, h3, p1, p2, p3, p4, p5, p6, d, t1, t2, t3⟩ := t
 exact ⟨e, f, l1, h1, l2, h2, l3, h3, by omega, by omega, by omega, by omega, by omega, by omega, d, t1, t2, t3⟩
theorem SysR.shape (t : SysR o l h w vi vo vh vc s) : ∃ ao ko ah kh ac kc, vi = .int .i64 s.ins ∧ vo = .slice ao s.outs.length ko ∧ vh = .slice ah s.hints.length kh ∧ vc = .slice ac s.cons.length kc ∧
  s.outs.length ≤ ko ∧ ko ≤ 9223372036854775807 ∧ s.hints.length ≤ kh ∧ kh ≤ 9223372036854775807 ∧ s.cons.length ≤ kc ∧ kc ≤ 9223372036854775807 ∧ Fits s.ins := by
 obtain ⟨e, f, l1, h1, l2, h2, l3, h3, p1, p2, p3, p4, p5, p6, d, t1, t2, t3⟩ := t
 obtain ⟨ao, ko, e1, q1, q2⟩ := t1.shape
 obtain ⟨ah, kh, e2, q3, q4⟩ := t2.shape
 obtain ⟨ac, kc, e3, q5, q6⟩ := t3.shape
 exact ⟨ao, ko, ah, kh, ac, kc, e, e1, e2, e3, q1, q2, q3, q4, q5, q6, f⟩
theorem SysR.parts (t : SysR o l h w vi vo vh vc s) : LinS o l h w vo s.outs ∧ HintS o l h w vh s.hints ∧ ConS o l h w vc s.cons := by
 obtain ⟨e, f, l1, h1, l2, h2, l3, h3, p1, p2, p3, p4, p5, p6, d, t1, t2, t3⟩ := t
 exact ⟨t1.mono p1 p2, t2.mono p3 p4, t3.mono p5 p6⟩
end
end Go.Proofs.YthipgpbapdambaaGreat.L
