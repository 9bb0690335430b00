/- The model's MixStep and Mix on numbers. -/
import Derived.Test.YtldeckiflghpcaaMix1
namespace Go.Proofs.Ytldeckiflghpcaa.L
open Go.RowKit Go.Proofs.Ytldeckiflghpcaa.S
set_option linter.unusedVariables false
set_option linter.unusedSimpArgs false

def isFour (h : List Int) : Prop := ∃ h0 h1 h2 h3, h = [h0, h1, h2, h3] ∧ isB h0 ∧ isB h1 ∧ isB h2 ∧ isB h3
theorem stepL_four {h : List Int} {m : Int} (hf : isFour h) (bm : isB m) : isFour (stepL h m) := by
  obtain ⟨h0, h1, h2, h3, rfl, b0, b1, b2, b3⟩ := hf
  exact ⟨_, _, _, _, rfl, stB_B b0 b1 b2 b3 bm, stC_B b0 b2 b3 bm, stD_B b0 b3 bm, stA_B b0 bm⟩
def firstL : List Int := [17, 83, 149, 211]
theorem firstL_four : isFour firstL := ⟨17, 83, 149, 211, rfl, by unfold isB; omega, by unfold isB; omega, by unfold isB; omega, by unfold isB; omega⟩
def foldM (xs : List Int) : List Int := xs.foldl stepL firstL
theorem foldM_four {xs : List Int} (h : ∀ x ∈ xs, isB x) : isFour (foldM xs) := by
  unfold foldM
  have : ∀ (l : List Int) (a : List Int), isFour a → (∀ x ∈ l, isB x) → isFour (l.foldl stepL a) := by
    intro l
    induction l with
    | nil => intro a ha _; exact ha
    | cons x r ih => intro a ha hl; exact ih _ (stepL_four ha (hl x (by simp))) fun y hy => hl y (by simp [hy])
  exact this xs _ firstL_four h
theorem foldM_snoc {xs : List Int} {k : Nat} {x : Int} (hx : xs[k]? = some x) : foldM (xs.take (k + 1)) = stepL (foldM (xs.take k)) x := by
  unfold foldM
  rw [take_step hx, List.foldl_append]; rfl
def zeros : Nat → List Int → List Int
  | 0, h => h
  | n + 1, h => stepL (zeros n h) 0
theorem zeros_four {n : Nat} {h : List Int} (hf : isFour h) : isFour (zeros n h) := by
  induction n with
  | zero => exact hf
  | succ n ih => exact stepL_four ih (by unfold isB; omega)
def lastM (xs : List Int) : List Int := stepL (foldM xs) xs.length
theorem lastM_four {xs : List Int} (h : ∀ x ∈ xs, isB x) (hl : xs.length ≤ 255) : isFour (lastM xs) := stepL_four (foldM_four h) (by unfold isB; omega)
def mixM (xs : List Int) : List Int := zeros 7 (lastM xs)
def msL (h : List Int) (m : Int) : List Int := if fourB h = true ∧ isB m then stepL h m else []
def mixL (xs : List Int) : List Int := if xs.length ≤ 8 ∧ allB xs = true then mixM xs else []
theorem mixL_no {xs : List Int} (h : ¬ (xs.length ≤ 8 ∧ allB xs = true)) : mixL xs = [] := if_neg h
theorem mixL_yes {xs : List Int} (h : xs.length ≤ 8) (b : allB xs = true) : mixL xs = mixM xs := if_pos ⟨h, b⟩
theorem mixM_four {xs : List Int} (h : xs.length ≤ 8) (b : allB xs = true) : isFour (mixM xs) := zeros_four (lastM_four (allB_mem b) (by omega))
theorem msL_no {h : List Int} {m : Int} (q : ¬ (fourB h = true ∧ isB m)) : msL h m = [] := if_neg q
theorem msL_yes {h : List Int} {m : Int} (q : fourB h = true) (b : isB m) : msL h m = stepL h m := if_pos ⟨q, b⟩

/-- The answer is a new row of numbers. -/
def ResN (w : World) (xs : List Int) (e : Ending) (w' : World) : Prop := ∃ u, e = .returned u ∧ Below w.heap.size w w' ∧ Nums true w.heap.size w'.heap.size w' u xs
theorem ResN.nil {w w' : World} {xs : List Int} (h : xs = []) (b : Below w.heap.size w w') : ResN w xs (.returned (.slice none 0 0)) w' := by
  subst h
  exact ⟨_, rfl, b, Nums.nil _ _ _ _⟩
theorem step_any (lim : Nat) (v : Value) (h : List Int) (m : Int) (w : World) (t : Ints lim w v h) (hf : isFour h) (bm : isB m) : Calls Try.prog 35 #[v, .int .i64 m] w (ResN w (stepL h m)) := by
  obtain ⟨h0, h1, h2, h3, rfl, b0, b1, b2, b3⟩ := hf
  exact l5step_any lim v h0 h1 h2 h3 m w t b0 b1 b2 b3 bm

set_option maxRecDepth 100000 in
theorem mixStep_spec (lim : Nat) (v : Value) (h : List Int) (m : Int) (w : World) (t : Ints lim w v h) : Calls Try.prog 12 #[v, .int .i64 m] w (ResN w (msL h m)) := by
  obtain ⟨a, ca, rfl, la, ba⟩ := t.shape
  have HC := Lib.hid (l5bytes_any lim (.slice a h.length ca) h w t)
  by_cases hl : h.length = 4
  case' neg =>
    have e4 : ((h.length : Int) != 4) = true := by simp; omega
    have HF := Lib.hid (msL_no (h := h) (m := m) (fun q => hl (by have := q.1; unfold fourB at this; simp at this; exact this.1)))
    clear hl
    go_enter Try.func12, Try.ntmps12
    go_wp2_with fail
    go_ret
    exact ResN.nil HF.out (Below.refl _ _)
  have e4 : ((h.length : Int) != 4) = false := by simp; omega
  have HL := Lib.hid hl
  clear hl
  by_cases hb : allB h = true
  case' neg =>
    have hb' : allB h = false := by simpa using hb
    have HF := Lib.hid (msL_no (h := h) (m := m) (fun q => hb (by have := q.1; unfold fourB at this; simp at this; exact this.2)))
    have HC' := HC.out
    rw [hb'] at HC'
    have HD := Lib.hid HC'
    clear hb hb' HC HC'
    go_enter Try.func12, Try.ntmps12
    go_wp2_with fail
    refine HD.out.mono ?_; rintro e w1 ⟨rfl, rfl⟩
    go_wp2_with fail
    go_ret
    exact ResN.nil HF.out (Below.refl _ _)
  have HF := Lib.hid (show fourB h = true by unfold fourB; rw [HL.out, hb]; rfl)
  have HC' := HC.out
  rw [hb] at HC'
  have HD := Lib.hid HC'
  have HT := Lib.hid t
  clear hb HC HC' t
  by_cases h0 : m < 0
  · have d0 : decide (m < 0) = true := decide_eq_true h0
    have HN := Lib.hid (msL_no (h := h) (m := m) (fun q => by have := q.2; unfold isB at this; omega))
    go_enter Try.func12, Try.ntmps12
    go_wp2_with fail
    refine HD.out.mono ?_; rintro e w1 ⟨rfl, rfl⟩
    go_wp2_with fail
    go_ret
    exact ResN.nil HN.out (Below.refl _ _)
  by_cases h1 : 255 < m
  · have d0 : decide (m < 0) = false := decide_eq_false h0
    have d1 : decide (255 < m) = true := decide_eq_true h1
    have HN := Lib.hid (msL_no (h := h) (m := m) (fun q => by have := q.2; unfold isB at this; omega))
    go_enter Try.func12, Try.ntmps12
    go_wp2_with fail
    refine HD.out.mono ?_; rintro e w1 ⟨rfl, rfl⟩
    go_wp2_with fail
    go_ret
    exact ResN.nil HN.out (Below.refl _ _)
  have d0 : decide (m < 0) = false := decide_eq_false h0
  have d1 : decide (255 < m) = false := decide_eq_false h1
  have bm : isB m := ⟨by omega, by omega⟩
  have HS := Lib.hid (step_any lim (.slice a h.length ca) h m w HT.out (fourB_elim HF.out) bm)
  have HM := Lib.hid (msL_yes HF.out bm)
  go_enter Try.func12, Try.ntmps12
  go_wp2_with fail
  refine HD.out.mono ?_; rintro e w1 ⟨rfl, rfl⟩
  go_wp2_with fail
  refine HS.out.mono ?_; rintro e w2 ⟨u, rfl, f2, q2⟩
  go_wp2_with fail
  go_ret
  exact ⟨u, rfl, f2, by rw [HM.out]; exact q2⟩

theorem first_any (w : World) : Calls Try.prog 53 #[] w (ResN w firstL) := by
  go_enter Try.func53, Try.ntmps53
  go_wp2_with fail
  go_ret
  exact ⟨_, rfl, by (repeat (with_reducible first | exact bR _ _ | assumption | refine bD ?_ | refine bN ?_ _ | refine bA ?_ _ | refine bS ?_ _)), Nums.four w _ (Nat.le_refl _) ⟨by omega, by omega⟩ ⟨by omega, by omega⟩ ⟨by omega, by omega⟩ ⟨by omega, by omega⟩⟩

set_option maxRecDepth 100000 in
set_option maxHeartbeats 1600000 in
theorem l5mix_any (lim : Nat) (v : Value) (xs : List Int) (w : World) (t : Ints lim w v xs) (hlim : lim ≤ w.heap.size) (hl8 : xs.length ≤ 8) (hb : allB xs = true) : Calls Try.prog 38 #[v] w (ResN w (mixM xs)) := by
  obtain ⟨a, ca, rfl, la, ba⟩ := t.shape
  have HB := Lib.hid (allB_mem hb)
  clear hb
  go_enter Try.func38, Try.ntmps38
  go_wp2_with fail
  refine (first_any _).mono ?_; rintro e w1 ⟨u1, rfl, f1, q1⟩
  go_wp2_with fail
  go_loopw [3, 4] (fun u i wr => ∃ k : Nat, k ≤ xs.length ∧ i = .int .i64 k ∧ Below w.heap.size w wr ∧ Nums true w.heap.size wr.heap.size wr u (foldM (xs.take k))) (fun _ i _ => xs.length - (intOf i).toNat)
  case atStart => exact ⟨0, Nat.zero_le _, rfl, f1, q1⟩
  case round =>
    obtain ⟨k, hk, rfl, be, tn⟩ := hrel
    have zr := be.size
    have four := foldM_four (xs := xs.take k) (fun x hx => HB.out x (List.mem_of_mem_take hx))
    by_cases hlt : k < xs.length
    · obtain ⟨b1, o1, x, rfl, l1, c1, e1, fx⟩ := (t.keep be hlim).at hlt
      have HN := Lib.hid (foldM_snoc e1)
      have HS := Lib.hid (step_any _ _ _ x wr tn.ints four (HB.out x (List.mem_of_getElem? e1)))
      clear e1 f1 q1 tn four t
      go_wp2_with fail
      refine HS.out.mono ?_; rintro e w2 ⟨u2, rfl, f2, q2⟩
      rw [← HN.out] at q2
      have q3 := q2.mono (l' := w.heap.size) (h' := w2.heap.size) zr (Nat.le_refl _)
      go_wp2_with fail
      go_roundw
      case rel => exact ⟨k + 1, by omega, by go_num, be.trans (f2.mono zr), q3⟩
      case measure => simp [intOf]; omega
    · obtain rfl : k = xs.length := by omega
      rw [List.take_length] at tn four
      have HS := Lib.hid (step_any _ _ _ (xs.length : Int) wr tn.ints four ⟨by omega, by omega⟩)
      have HA := Lib.hid (lastM_four (xs := xs) HB.out (by omega))
      clear f1 q1 tn four t
      go_wp2_with fail
      refine HS.out.mono ?_; rintro e w2 ⟨u2, rfl, f2, q2⟩
      have be2 := be.trans (f2.mono zr)
      have q3 : Nums true w.heap.size w2.heap.size w2 u2 (lastM xs) := q2.mono (l' := w.heap.size) (h' := w2.heap.size) zr (Nat.le_refl _)
      clear q2 HS f2 be zr
      go_wp2_with fail
      go_loopw [3, 5] (fun u i wr => ∃ k : Nat, k ≤ 7 ∧ i = .int .i64 k ∧ Below w.heap.size w wr ∧ Nums true w.heap.size wr.heap.size wr u (zeros k (lastM xs))) (fun _ i _ => 7 - (intOf i).toNat)
      case atStart => exact ⟨0, Nat.zero_le _, rfl, be2, q3⟩
      case round =>
        obtain ⟨j, hj, rfl, be, tn⟩ := hrel
        have zr := be.size
        have four := zeros_four (n := j) HA.out
        clear q3 be2
        by_cases hlt : j < 7
        · have HS := Lib.hid (step_any _ _ _ 0 wr tn.ints four ⟨by omega, by omega⟩)
          clear tn four
          go_wp2_with fail
          refine HS.out.mono ?_; rintro e w3 ⟨u3, rfl, f3, q3⟩
          have q4 : Nums true w.heap.size w3.heap.size w3 u3 (zeros (j + 1) (lastM xs)) := q3.mono (l' := w.heap.size) (h' := w3.heap.size) zr (Nat.le_refl _)
          go_wp2_with fail
          go_roundw
          case rel => exact ⟨j + 1, by omega, by go_num, be.trans (f3.mono zr), q4⟩
          case measure => simp [intOf]; omega
        · obtain rfl : j = 7 := by omega
          go_wp2_with fail
          go_ret
          exact ⟨_, rfl, be, tn⟩

set_option maxRecDepth 100000 in
theorem mix_spec (lim : Nat) (v : Value) (xs : List Int) (w : World) (t : Ints lim w v xs) (hlim : lim ≤ w.heap.size) (hlen : xs.length ≤ 4194304) : Calls Try.prog 18 #[v] w (ResN w (mixL xs)) := by
  obtain ⟨a, ca, rfl, la, ba⟩ := t.shape
  have HC := Lib.hid (l5bytes_any lim (.slice a xs.length ca) xs w t)
  by_cases hl : xs.length ≤ 8
  case' neg =>
    have e8 : decide (8 < xs.length) = true := decide_eq_true (by omega)
    have HF := Lib.hid (mixL_no (xs := xs) (fun q => hl q.1))
    go_enter Try.func18, Try.ntmps18
    go_wp2_with fail
    go_ret
    exact ResN.nil HF.out (Below.refl _ _)
  have e8 : decide (8 < xs.length) = false := decide_eq_false (by omega)
  by_cases hb : allB xs = true
  case' neg =>
    have hb' : allB xs = false := by simpa using hb
    have HF := Lib.hid (mixL_no (xs := xs) (fun q => hb q.2))
    have HC' := HC.out
    rw [hb'] at HC'
    have HD := Lib.hid HC'
    clear hb hb' HC HC'
    go_enter Try.func18, Try.ntmps18
    go_wp2_with fail
    refine HD.out.mono ?_; rintro e w1 ⟨rfl, rfl⟩
    go_wp2_with fail
    go_ret
    exact ResN.nil HF.out (Below.refl _ _)
  have HF := Lib.hid (mixL_yes hl hb)
  have HM := Lib.hid (l5mix_any lim _ xs w t hlim hl hb)
  have HC' := HC.out
  rw [hb] at HC'
  have HD := Lib.hid HC'
  clear hb HC HC' t
  go_enter Try.func18, Try.ntmps18
  go_wp2_with fail
  refine HD.out.mono ?_; rintro e w1 ⟨rfl, rfl⟩
  go_wp2_with fail
  refine HM.out.mono ?_; rintro e w2 ⟨u, rfl, f2, q2⟩
  go_wp2_with fail
  go_ret
  exact ⟨u, rfl, f2, by rw [HF.out]; exact q2⟩
end Go.Proofs.Ytldeckiflghpcaa.L
