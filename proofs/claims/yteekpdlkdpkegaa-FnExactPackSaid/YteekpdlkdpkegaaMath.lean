/- Plain arithmetic modulo the prime 2147483647: the number is prime, and the power P - 2 of a number other than 0 is its inverse. -/
namespace Go.Proofs.Yteekpdlkdpkegaa.M

/-! ### The number is prime -/
def chk (p : Nat) (n : Nat) : Bool := Nat.rec (motive := fun _ => Bool) true (fun k ih => bif p % (k + 2) == 0 then false else ih) n

theorem chk_spec (p n : Nat) (h : chk p n = true) : ∀ d, 2 ≤ d → d < n + 2 → p % d ≠ 0 := by
  induction n with
  | zero => intro d h1 h2; omega
  | succ n ih =>
    intro d h1 h2
    have hs : (bif p % (n + 2) == 0 then false else chk p n) = true := h
    have hm : p % (n + 2) ≠ 0 := by
      intro e
      rw [show (p % (n + 2) == 0) = true from by simp [e]] at hs
      simp at hs
    rw [show (p % (n + 2) == 0) = false from by simp [hm]] at hs
    by_cases e : d = n + 2
    · rw [e]; exact hm
    · exact ih hs d h1 (by omega)

def IsPrime (p : Nat) : Prop := 2 ≤ p ∧ ∀ d, d ∣ p → d = 1 ∨ d = p

theorem chkP : chk 2147483647 46340 = true := by decide +kernel

theorem primeP : IsPrime 2147483647 := by
  refine ⟨by omega, fun d ⟨k, hk⟩ => ?_⟩
  have hc := chk_spec _ _ chkP
  by_cases h1 : d = 1
  · exact .inl h1
  by_cases h2 : d = 2147483647
  · exact .inr h2
  exfalso
  have d0 : d ≠ 0 := by intro e; subst e; simp at hk
  have k0 : k ≠ 0 := by intro e; subst e; simp at hk
  have k1 : k ≠ 1 := by intro e; subst e; omega
  by_cases hd : d < 46342
  · exact hc d (by omega) (by omega) (by rw [hk]; exact Nat.mul_mod_right d k)
  · have hk2 : k < 46342 := by
      apply Classical.byContradiction
      intro h
      have : 46342 * 46342 ≤ d * k := Nat.mul_le_mul (by omega) (by omega)
      omega
    exact hc k (by omega) (by omega) (by rw [hk]; exact Nat.mul_mod_left d k)

theorem coprime_of_lt {p a : Nat} (hp : IsPrime p) (h0 : 0 < a) (h1 : a < p) : Nat.Coprime p a := by
  rcases hp.2 (Nat.gcd p a) (Nat.gcd_dvd_left p a) with h | h
  · exact h
  · exfalso
    have hd : p ∣ a := by rw [← h]; exact Nat.gcd_dvd_right p a
    have := Nat.le_of_dvd h0 hd
    omega

/-! ### Binomial coefficients -/
def ch : Nat → Nat → Nat
  | _, 0 => 1
  | 0, _ + 1 => 0
  | n + 1, k + 1 => ch n k + ch n (k + 1)

theorem ch_zero (n : Nat) : ch n 0 = 1 := by cases n <;> rfl
theorem ch_succ (n k : Nat) : ch (n + 1) (k + 1) = ch n k + ch n (k + 1) := rfl
theorem ch_gt : ∀ (n k : Nat), n < k → ch n k = 0
  | 0, 0, h => by omega
  | 0, _ + 1, _ => rfl
  | n + 1, 0, h => by omega
  | n + 1, k + 1, h => by rw [ch_succ, ch_gt n k (by omega), ch_gt n (k + 1) (by omega)]
theorem ch_self : ∀ (n : Nat), ch n n = 1
  | 0 => rfl
  | n + 1 => by rw [ch_succ, ch_self n, ch_gt n (n + 1) (by omega)]

theorem ch_mul : ∀ (n k : Nat), (n + 1) * ch n k = ch (n + 1) (k + 1) * (k + 1)
  | 0, 0 => rfl
  | 0, k + 1 => by rw [ch_gt 0 (k + 1) (by omega), ch_gt (0 + 1) (k + 1 + 1) (by omega)]; simp
  | n + 1, 0 => by
    have h := ch_mul n 0
    rw [ch_zero] at h ⊢
    rw [ch_succ (n + 1) 0, ch_zero]
    simp only [Nat.mul_one] at h ⊢
    omega
  | n + 1, k + 1 => by
    have h1 := ch_mul n k
    have h2 := ch_mul n (k + 1)
    rw [ch_succ (n + 1) (k + 1), ch_succ n k]
    rw [ch_succ n (k + 1)] at h2
    rw [ch_succ n k] at h1
    try rw [ch_succ n (k + 1)]
    generalize ch n k = a at *
    generalize ch n (k + 1) = b at *
    generalize ch n (k + 1 + 1) = c at *
    simp only [Nat.add_mul, Nat.mul_add, Nat.one_mul, Nat.mul_one] at *
    omega

theorem dvd_ch {p k : Nat} (hp : IsPrime p) (h0 : 0 < k) (h1 : k < p) : p ∣ ch p k := by
  obtain ⟨n, rfl⟩ : ∃ n, p = n + 1 := ⟨p - 1, by omega⟩
  obtain ⟨j, rfl⟩ : ∃ j, k = j + 1 := ⟨k - 1, by omega⟩
  have h := ch_mul n j
  exact (coprime_of_lt hp h0 h1).dvd_of_dvd_mul_right ⟨ch n j, h.symm⟩

/-! ### (x + 1) ^ n -/
/-- The sum of the terms of (x + 1)^n below m. -/
def bs (n x : Nat) : Nat → Nat
  | 0 => 0
  | m + 1 => bs n x m + ch n m * x ^ m

theorem bs_step (n x : Nat) : ∀ m, bs (n + 1) x (m + 1) = bs n x (m + 1) + x * bs n x m
  | 0 => by simp [bs, ch_zero]
  | m + 1 => by
    have e0 : bs (n + 1) x (m + 1 + 1) = bs (n + 1) x (m + 1) + ch (n + 1) (m + 1) * x ^ (m + 1) := rfl
    have e1 : bs n x (m + 1 + 1) = bs n x (m + 1) + ch n (m + 1) * x ^ (m + 1) := rfl
    have e2 : bs n x (m + 1) = bs n x m + ch n m * x ^ m := rfl
    have e : x * (ch n m * x ^ m) = ch n m * (x ^ m * x) := by rw [Nat.mul_comm, Nat.mul_assoc]
    rw [e0, e1, bs_step n x m, ch_succ n m]
    rw [show x * bs n x (m + 1) = x * bs n x m + ch n m * (x ^ m * x) from by rw [e2, Nat.mul_add, e]]
    simp only [Nat.add_mul, Nat.pow_succ]
    omega

theorem bs_full (n x : Nat) : bs n x (n + 1) = (x + 1) ^ n := by
  induction n with
  | zero => simp [bs, ch_zero]
  | succ n ih =>
    rw [bs_step n x (n + 1), ih]
    have e : bs n x (n + 1 + 1) = bs n x (n + 1) := by
      rw [bs, ch_gt n (n + 1) (by omega)]; simp
    rw [e, ih, Nat.pow_succ, Nat.mul_add, Nat.mul_one, Nat.add_comm, Nat.mul_comm]

theorem bs_mod {p : Nat} (hp : IsPrime p) (x : Nat) : ∀ m, m < p → bs p x (m + 1) % p = 1 % p
  | 0, _ => by simp [bs, ch_zero]
  | m + 1, h => by
    rw [bs, Nat.add_mod, bs_mod hp x m (by omega)]
    obtain ⟨c, hc⟩ := dvd_ch hp (by omega : 0 < m + 1) h
    rw [hc, Nat.mul_assoc, Nat.mul_mod_right]
    simp

theorem frob {p : Nat} (hp : IsPrime p) (x : Nat) : (x + 1) ^ p % p = (x ^ p + 1) % p := by
  have h2 := hp.1
  rw [← bs_full, bs, Nat.add_mod]
  have e : bs p x p % p = 1 % p := by
    have := bs_mod hp x (p - 1) (by omega)
    rwa [show p - 1 + 1 = p from by omega] at this
  rw [e, ch_self, Nat.one_mul, ← Nat.add_mod, Nat.add_comm]

theorem little {p : Nat} (hp : IsPrime p) : ∀ x : Nat, x ^ p % p = x % p
  | 0 => by have := hp.1; rw [Nat.zero_pow (by omega)]
  | x + 1 => by rw [frob hp, Nat.add_mod, little hp x, ← Nat.add_mod]

theorem fermat {p x : Nat} (hp : IsPrime p) (h0 : 0 < x) (h1 : x < p) : x ^ (p - 1) % p = 1 := by
  have h2 := hp.1
  have hl := little hp x
  have hx : 1 ≤ x ^ (p - 1) := Nat.one_le_pow _ _ h0
  have e : x ^ p = x * x ^ (p - 1) := by
    rw [Nat.mul_comm, ← Nat.pow_succ]
    rw [show (p - 1).succ = p from by omega]
  have hd : p ∣ x * (x ^ (p - 1) - 1) := by
    apply Nat.dvd_of_mod_eq_zero
    rw [Nat.mul_sub, Nat.mul_one, ← e]
    exact Nat.sub_mod_eq_zero_of_mod_eq hl
  have hc := (coprime_of_lt hp h0 h1).dvd_of_dvd_mul_left hd
  obtain ⟨c, hc⟩ := hc
  have : x ^ (p - 1) = 1 + p * c := by omega
  rw [this, Nat.add_mul_mod_self_left]
  exact Nat.mod_eq_of_lt (by omega)

/-! ### Over Int -/
/-- a to the power n, modulo P. -/
def pw (a : Int) (n : Nat) : Int := a ^ n % 2147483647

theorem pw_lo (a : Int) (n : Nat) : 0 ≤ pw a n := Int.emod_nonneg _ (by omega)
theorem pw_hi (a : Int) (n : Nat) : pw a n < 2147483647 := Int.emod_lt_of_pos _ (by omega)
theorem pw_zero (a : Int) : pw a 0 = 1 := by simp [pw]
theorem pw_one (a : Int) : pw a 1 = a % 2147483647 := by unfold pw; rw [Int.pow_succ, Int.pow_zero, Int.one_mul]
theorem pw_add (a : Int) (m n : Nat) : pw a (m + n) = pw a m * pw a n % 2147483647 := by
  unfold pw; rw [Int.pow_add, Int.mul_emod]
theorem pw_emod (a : Int) (n : Nat) : pw (a % 2147483647) n = pw a n := by
  induction n with
  | zero => rw [pw_zero, pw_zero]
  | succ n ih => rw [pw_add, pw_add, ih, pw_one, pw_one, Int.emod_emod]

/-- What is left of a power, after some rounds of squaring: r times a to the n. -/
theorem pw_even (a : Int) (m : Nat) : pw (a * a % 2147483647) m = pw a (2 * m) := by
  rw [pw_emod]
  unfold pw
  rw [Int.pow_mul, Int.pow_succ, Int.pow_succ, Int.pow_zero, Int.one_mul]
theorem pw_odd (a : Int) (m : Nat) : pw a (2 * m + 1) = a * pw (a * a % 2147483647) m % 2147483647 := by
  rw [pw_even, Nat.add_comm, pw_add, pw_one, Int.mul_emod, Int.emod_emod, ← Int.mul_emod]

theorem pw_fermat (a : Int) (h : a % 2147483647 ≠ 0) : pw a 2147483646 = 1 := by
  have h0 := Int.emod_nonneg a (by omega : (2147483647 : Int) ≠ 0)
  have h1 := Int.emod_lt_of_pos a (by omega : (0 : Int) < 2147483647)
  rw [← pw_emod]
  obtain ⟨x, hx⟩ := Int.eq_ofNat_of_zero_le h0
  rw [hx] at h h1 ⊢
  have hf := fermat primeP (x := x) (by omega) (by omega)
  unfold pw
  rw [show (2147483647 : Nat) - 1 = 2147483646 from by omega] at hf
  generalize (2147483646 : Nat) = e at *
  have hc : ((x : Int) ^ e) = ((x ^ e : Nat) : Int) := (Int.natCast_pow x e).symm
  rw [hc]
  omega

theorem pw_inv (a : Int) (h : a % 2147483647 ≠ 0) : a * pw a 2147483645 % 2147483647 = 1 := by
  have hf := pw_fermat a h
  rw [show (2147483646 : Nat) = 2147483645 + 1 from by omega, pw_add, pw_one, Int.mul_comm, Int.mul_emod, Int.emod_emod, ← Int.mul_emod] at hf
  exact hf

theorem pw_none (a : Int) (h : a % 2147483647 = 0) : pw a 2147483645 = 0 := by
  rw [← pw_emod, h, show (2147483645 : Nat) = 1 + 2147483644 from by omega, pw_add, pw_one]
  simp
end Go.Proofs.Yteekpdlkdpkegaa.M
