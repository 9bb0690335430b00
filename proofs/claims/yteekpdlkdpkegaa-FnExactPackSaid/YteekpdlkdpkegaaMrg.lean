/- Sums of linear combinations, taken for lists of terms: the terms of a plus k times b, in ascending order. -/
import Derived.Test.YteekpdlkdpkegaaLinOk
namespace Go.Proofs.Yteekpdlkdpkegaa.L
open Go.RowKit Go.Proofs.Yteekpdlkdpkegaa.S
set_option linter.unusedVariables false

/-- k times a term; a term more of the same variable; a term that is left out where it is nothing. -/
def tm (k : Int) (b : T) : T := (b.1, b.2 * k % 2147483647)
def pl (a b : T) : T := (a.1, (a.2 + b.2) % 2147483647)
def kp (t : T) (l : List T) : List T := if t.2 = 0 then l else t :: l

def mrg (k : Int) : List T → List T → List T
  | [], [] => []
  | a :: xs, [] => kp a (mrg k xs [])
  | [], b :: ys => kp (tm k b) (mrg k [] ys)
  | a :: xs, b :: ys =>
    if a.1 < b.1 then kp a (mrg k xs (b :: ys))
    else if b.1 < a.1 then kp (tm k b) (mrg k (a :: xs) ys)
    else kp (pl a (tm k b)) (mrg k xs ys)
termination_by xs ys => xs.length + ys.length

theorem mrg_nil (k : Int) : mrg k [] [] = [] := by rw [mrg]
theorem mrg_a (k : Int) (a : T) (xs : List T) : mrg k (a :: xs) [] = kp a (mrg k xs []) := by rw [mrg]
theorem mrg_b (k : Int) (b : T) (ys : List T) : mrg k [] (b :: ys) = kp (tm k b) (mrg k [] ys) := by rw [mrg]
theorem mrg_lt (k : Int) (a b : T) (xs ys : List T) (h : a.1 < b.1) : mrg k (a :: xs) (b :: ys) = kp a (mrg k xs (b :: ys)) := by rw [mrg, if_pos h]
theorem mrg_gt (k : Int) (a b : T) (xs ys : List T) (h : b.1 < a.1) : mrg k (a :: xs) (b :: ys) = kp (tm k b) (mrg k (a :: xs) ys) := by rw [mrg, if_neg (by omega), if_pos h]
theorem mrg_eq (k : Int) (a b : T) (xs ys : List T) (h : a.1 = b.1) : mrg k (a :: xs) (b :: ys) = kp (pl a (tm k b)) (mrg k xs ys) := by rw [mrg, if_neg (by omega), if_neg (by omega)]

theorem kp_length (t : T) (l : List T) : (kp t l).length ≤ l.length + 1 := by unfold kp; split <;> simp
theorem mrg_length (k : Int) : ∀ (xs ys : List T), (mrg k xs ys).length ≤ xs.length + ys.length
  | [], [] => by rw [mrg_nil]; simp
  | a :: xs, [] => by
    rw [mrg_a]
    have := kp_length a (mrg k xs [])
    have := mrg_length k xs []
    simp at *; omega
  | [], b :: ys => by
    rw [mrg_b]
    have := kp_length (tm k b) (mrg k [] ys)
    have := mrg_length k [] ys
    simp at *; omega
  | a :: xs, b :: ys => by
    by_cases h : a.1 < b.1
    · rw [mrg_lt k a b xs ys h]
      have := kp_length a (mrg k xs (b :: ys))
      have := mrg_length k xs (b :: ys)
      simp at *; omega
    · by_cases h2 : b.1 < a.1
      · rw [mrg_gt k a b xs ys h2]
        have := kp_length (tm k b) (mrg k (a :: xs) ys)
        have := mrg_length k (a :: xs) ys
        simp at *; omega
      · rw [mrg_eq k a b xs ys (by omega)]
        have := kp_length (pl a (tm k b)) (mrg k xs ys)
        have := mrg_length k xs ys
        simp at *; omega
termination_by xs ys => xs.length + ys.length

/-- Where the two lists stand behind some rounds, and what has come. -/
def Sofar (k : Int) (xs ys : List T) (i j : Nat) (pre : List T) : Prop := pre ++ mrg k (xs.drop i) (ys.drop j) = mrg k xs ys
theorem Sofar.start (k : Int) (xs ys : List T) : Sofar k xs ys 0 0 [] := rfl
theorem Sofar.len {k : Int} {xs ys : List T} {i j : Nat} {pre : List T} (h : Sofar k xs ys i j pre) : pre.length ≤ xs.length + ys.length := by
  have h1 := congrArg List.length h
  have h2 := mrg_length k xs ys
  simp only [List.length_append] at h1
  omega
/-- The next term t; behind it the lists stand at i', j'. -/
def Next (k : Int) (xs ys : List T) (i j : Nat) (t : T) (i' j' : Nat) : Prop := mrg k (xs.drop i) (ys.drop j) = kp t (mrg k (xs.drop i') (ys.drop j'))
theorem Sofar.miss {k : Int} {xs ys : List T} {i j i' j' : Nat} {t : T} {pre : List T} (h : Sofar k xs ys i j pre) (hn : Next k xs ys i j t i' j') (h0 : t.2 = 0) : Sofar k xs ys i' j' pre := by
  unfold Sofar Next at *; rw [hn, kp, if_pos h0] at h; exact h
theorem Sofar.hit {k : Int} {xs ys : List T} {i j i' j' : Nat} {t : T} {pre : List T} (h : Sofar k xs ys i j pre) (hn : Next k xs ys i j t i' j') (h0 : t.2 ≠ 0) : Sofar k xs ys i' j' (pre ++ [t]) := by
  unfold Sofar Next at *; rw [hn, kp, if_neg h0] at h; rw [List.append_assoc]; exact h
theorem Sofar.lt {k : Int} {xs ys : List T} {i j i' j' : Nat} {t : T} {pre : List T} (h : Sofar k xs ys i j pre) (hn : Next k xs ys i j t i' j') (h0 : t.2 ≠ 0) : pre.length < xs.length + ys.length := by
  have := (h.hit hn h0).len
  simp at this; omega
theorem Sofar.stop {k : Int} {xs ys : List T} {i j : Nat} {pre : List T} (h : Sofar k xs ys i j pre) (hi : xs.length ≤ i) (hj : ys.length ≤ j) : pre = mrg k xs ys := by
  unfold Sofar at h; rw [List.drop_eq_nil_of_le hi, List.drop_eq_nil_of_le hj, mrg_nil, List.append_nil] at h; exact h
theorem Sofar.part {k : Int} {xs ys : List T} {i j : Nat} {pre : List T} (h : Sofar k xs ys i j pre) : pre <+: mrg k xs ys := ⟨_, h⟩

theorem next_a {k : Int} {xs ys : List T} {i j : Nat} {a : T} (ha : xs[i]? = some a) (hj : ys.length ≤ j) : Next k xs ys i j a (i + 1) j := by
  unfold Next; rw [drop_step ha, List.drop_eq_nil_of_le hj, mrg_a]
theorem next_b {k : Int} {xs ys : List T} {i j : Nat} {b : T} (hb : ys[j]? = some b) (hi : xs.length ≤ i) : Next k xs ys i j (tm k b) i (j + 1) := by
  unfold Next; rw [drop_step hb, List.drop_eq_nil_of_le hi, mrg_b]
theorem next_lt {k : Int} {xs ys : List T} {i j : Nat} {a b : T} (ha : xs[i]? = some a) (hb : ys[j]? = some b) (h : a.1 < b.1) : Next k xs ys i j a (i + 1) j := by
  unfold Next; rw [drop_step ha, drop_step hb, mrg_lt k a b _ _ h]
theorem next_gt {k : Int} {xs ys : List T} {i j : Nat} {a b : T} (ha : xs[i]? = some a) (hb : ys[j]? = some b) (h : b.1 < a.1) : Next k xs ys i j (tm k b) i (j + 1) := by
  unfold Next; rw [drop_step ha, drop_step hb, mrg_gt k a b _ _ h]
theorem next_eq {k : Int} {xs ys : List T} {i j : Nat} {a b : T} (ha : xs[i]? = some a) (hb : ys[j]? = some b) (h : a.1 = b.1) : Next k xs ys i j (pl a (tm k b)) (i + 1) (j + 1) := by
  unfold Next; rw [drop_step ha, drop_step hb, mrg_eq k a b _ _ h]

/-- The factors of a valid combination are numbers of the field other than 0. -/
theorem okFrom_mem : ∀ {ts : List T} {p : Int}, okFrom p ts = true → ∀ t ∈ ts, p < t.1 ∧ t.1 < 3000 ∧ 0 < t.2 ∧ t.2 < 2147483647
  | [], _, _, t, ht => by simp at ht
  | u :: us, p, h, t, ht => by
    simp only [okFrom, Bool.and_eq_true, decide_eq_true_eq] at h
    obtain ⟨⟨h1, h2, h3, h4⟩, h5⟩ := h
    rcases List.mem_cons.1 ht with rfl | ht
    · exact ⟨h1, h2, h3, h4⟩
    · have := okFrom_mem h5 t ht
      exact ⟨by omega, this.2⟩
theorem linOk_mem {ts : List T} (h : linOk ts = true) : ∀ t ∈ ts, 0 ≤ t.1 ∧ t.1 < 3000 ∧ 0 < t.2 ∧ t.2 < 2147483647 := fun t ht => by
  have := okFrom_mem h t ht
  exact ⟨by omega, this.2⟩
theorem linOk_at {ts : List T} (h : linOk ts = true) {i : Nat} {t : T} (hi : ts[i]? = some t) : 0 ≤ t.1 ∧ t.1 < 3000 ∧ 0 < t.2 ∧ t.2 < 2147483647 := linOk_mem h t (List.mem_of_getElem? hi)
theorem okFrom_length : ∀ {ts : List T} {p : Int}, okFrom p ts = true → -1 ≤ p → p < 3000 → (ts.length : Int) ≤ 2999 - p
  | [], p, _, _, _ => by simp; omega
  | u :: us, p, h, h0, h1 => by
    simp only [okFrom, Bool.and_eq_true, decide_eq_true_eq] at h
    obtain ⟨⟨h2, h3, h4, h5⟩, h6⟩ := h
    have := okFrom_length h6 (by omega) h3
    simp; omega
theorem linOk_length {ts : List T} (h : linOk ts = true) : ts.length ≤ 3000 := by
  have := okFrom_length h (by omega) (by omega)
  omega

theorem okFrom_mono : ∀ {ts : List T} {p q : Int}, okFrom q ts = true → p ≤ q → okFrom p ts = true
  | [], _, _, _, _ => rfl
  | u :: us, p, q, h, hp => by
    simp only [okFrom, Bool.and_eq_true, decide_eq_true_eq] at h ⊢
    obtain ⟨⟨h2, h3, h4, h5⟩, h6⟩ := h
    exact ⟨⟨by omega, h3, h4, h5⟩, h6⟩
theorem okFrom_kp {p : Int} {t : T} {l : List T} (h0 : p < t.1) (h1 : t.1 < 3000) (h2 : 0 ≤ t.2) (h3 : t.2 < 2147483647) (hl : okFrom t.1 l = true) : okFrom p (kp t l) = true := by
  unfold kp
  split
  · exact okFrom_mono hl (by omega)
  · simp only [okFrom, Bool.and_eq_true, decide_eq_true_eq]
    exact ⟨⟨h0, h1, by omega, h3⟩, hl⟩
theorem okFrom_cons {p : Int} {t : T} {l : List T} (h : okFrom p (t :: l) = true) : (p < t.1 ∧ t.1 < 3000 ∧ 0 < t.2 ∧ t.2 < 2147483647) ∧ okFrom t.1 l = true := by
  simpa only [okFrom, Bool.and_eq_true, decide_eq_true_eq] using h
theorem okFrom_up {p q : Int} {t : T} {l : List T} (h : okFrom p (t :: l) = true) (hq : q < t.1) : okFrom q (t :: l) = true := by
  simp only [okFrom, Bool.and_eq_true, decide_eq_true_eq] at h ⊢
  exact ⟨⟨hq, h.1.2⟩, h.2⟩
theorem mrg_ok (k : Int) : ∀ (xs ys : List T) (p : Int), okFrom p xs = true → okFrom p ys = true → okFrom p (mrg k xs ys) = true
  | [], [], p, _, _ => by rw [mrg_nil]; rfl
  | a :: xs, [], p, hx, _ => by
    obtain ⟨⟨h0, h1, h2, h3⟩, h4⟩ := okFrom_cons hx
    rw [mrg_a]
    exact okFrom_kp h0 h1 (by omega) h3 (mrg_ok k xs [] a.1 h4 rfl)
  | [], b :: ys, p, _, hy => by
    obtain ⟨⟨h0, h1, h2, h3⟩, h4⟩ := okFrom_cons hy
    rw [mrg_b]
    exact okFrom_kp (t := tm k b) h0 h1 (by unfold tm; simp only; omega) (by unfold tm; simp only; omega) (mrg_ok k [] ys b.1 rfl h4)
  | a :: xs, b :: ys, p, hx, hy => by
    obtain ⟨⟨h0, h1, h2, h3⟩, h4⟩ := okFrom_cons hx
    obtain ⟨⟨g0, g1, g2, g3⟩, g4⟩ := okFrom_cons hy
    by_cases h : a.1 < b.1
    · rw [mrg_lt k a b xs ys h]
      exact okFrom_kp h0 h1 (by omega) h3 (mrg_ok k xs (b :: ys) a.1 h4 (okFrom_up hy h))
    · by_cases h' : b.1 < a.1
      · rw [mrg_gt k a b xs ys h']
        exact okFrom_kp (t := tm k b) g0 g1 (by unfold tm; simp only; omega) (by unfold tm; simp only; omega) (mrg_ok k (a :: xs) ys b.1 (okFrom_up hx h') g4)
      · have e : a.1 = b.1 := by omega
        rw [mrg_eq k a b xs ys e]
        exact okFrom_kp (t := pl a (tm k b)) h0 h1 (by unfold pl tm; simp only; omega) (by unfold pl tm; simp only; omega) (mrg_ok k xs ys a.1 h4 (by rw [e]; exact g4))
termination_by xs ys => xs.length + ys.length
theorem linOk_mrg {k : Int} {xs ys : List T} (hx : linOk xs = true) (hy : linOk ys = true) : linOk (mrg k xs ys) = true := mrg_ok k xs ys (-1) hx hy
theorem linOk_fits {ts : List T} (h : linOk ts = true) : ∀ t ∈ ts, Fits t.1 ∧ Fits t.2 := fun t ht => by
  have := linOk_mem h t ht
  unfold Fits; omega
end Go.Proofs.Yteekpdlkdpkegaa.L
