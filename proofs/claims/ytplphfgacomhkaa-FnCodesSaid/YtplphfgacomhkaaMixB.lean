/- Slices of bytes: the tests of the program and of the model. -/
import Derived.Test.YtplphfgacomhkaaMixP
import Derived.Test.YtplphfgacomhkaaNums2
namespace Go.Proofs.Ytplphfgacomhkaa.L
open Go.RowKit Go.Proofs.Ytplphfgacomhkaa.S
set_option linter.unusedVariables false
set_option linter.unusedSimpArgs false

theorem isB_fits {x : Int} (h : isB x) : Fits x := by unfold isB at h; unfold Fits; omega
theorem take_all {xs : List Int} {k : Nat} (h : ∀ x ∈ xs.take k, isB x) {x : Int} (hx : xs[k]? = some x) (b : isB x) : ∀ y ∈ xs.take (k + 1), isB y := by
  intro y hy
  rw [take_step hx] at hy
  rcases List.mem_append.1 hy with hy | hy
  · exact h y hy
  · simp at hy; subst hy; exact b
theorem allB_no {xs : List Int} {k : Nat} {x : Int} (hx : xs[k]? = some x) (b : ¬ isB x) : allB xs = false := by
  unfold allB
  rw [decide_eq_false_iff_not]
  exact fun h => b (h x (List.mem_of_getElem? hx))
theorem allB_yes {xs : List Int} {k : Nat} (h : ∀ x ∈ xs.take k, isB x) (hk : ¬ k < xs.length) : allB xs = true := by
  unfold allB
  rw [List.take_of_length_le (by omega)] at h
  exact decide_eq_true h
theorem allB_mem {xs : List Int} (h : allB xs = true) : ∀ x ∈ xs, isB x := of_decide_eq_true h

set_option maxRecDepth 100000 in
theorem l5bytes_any (lim : Nat) (v : Value) (xs : List Int) (w : World) (t : Ints lim w v xs) :
    Calls Try.prog 28 #[v] w fun e w' => e = .returned (.bool (allB xs)) ∧ w = w' := by
  obtain ⟨a, ca, rfl, la, ba⟩ := t.shape
  go_enter Try.func28, Try.ntmps28
  go_wp2_with fail
  go_loop [3] (fun i => ∃ k : Nat, k ≤ xs.length ∧ i = .int .i64 k ∧ ∀ x ∈ xs.take k, isB x) (fun i => xs.length - (intOf i).toNat)
  case atStart => exact ⟨0, Nat.zero_le _, rfl, fun x hx => by simp at hx⟩
  case round =>
    obtain ⟨k, hk, rfl, ht⟩ := hrel
    have HT := Lib.hid ht
    clear ht
    by_cases hlt : k < xs.length
    · obtain ⟨b1, o1, x, rfl, l1, c1, e1, f1⟩ := t.at hlt
      by_cases h0 : x < 0
      · have HN := Lib.hid (allB_no e1 (fun q => by unfold isB at q; omega))
        have d0 : decide (x < 0) = true := decide_eq_true h0
        clear e1
        go_wp2_with fail
        go_ret
        exact ⟨ret_bool HN.out.symm, rfl⟩
      by_cases h1 : 255 < x
      · have HN := Lib.hid (allB_no e1 (fun q => by unfold isB at q; omega))
        have d0 : decide (x < 0) = false := decide_eq_false h0
        have d1 : decide (255 < x) = true := decide_eq_true h1
        clear e1
        go_wp2_with fail
        go_ret
        exact ⟨ret_bool HN.out.symm, rfl⟩
      have HN := Lib.hid (take_all HT.out e1 ⟨by omega, by omega⟩)
      have d0 : decide (x < 0) = false := decide_eq_false h0
      have d1 : decide (255 < x) = false := decide_eq_false h1
      clear e1
      go_wp2_with fail
      go_round
      case rel => exact ⟨k + 1, by omega, by go_num, HN.out⟩
      case measure => simp [intOf]; omega
    · have HN := Lib.hid (allB_yes HT.out hlt)
      go_wp2_with fail
      go_ret
      exact ⟨ret_bool HN.out.symm, rfl⟩

set_option maxRecDepth 100000 in
theorem allBytes_any (lim : Nat) (v : Value) (xs : List Int) (w : World) (t : Ints lim w v xs) :
    Calls Try.prog 29 #[v] w fun e w' => e = .returned (.bool (allB xs)) ∧ Below w.heap.size w w' := by
  obtain ⟨a, ca, rfl, la, ba⟩ := t.shape
  have hlim : ∀ k, k < xs.length → ∃ b off, a = some ⟨b, off, none⟩ ∧ b < w.heap.size := by
    intro k hk
    obtain ⟨b1, o1, x, rfl, l1, c1, e1, f1⟩ := t.at hk
    exact ⟨b1, o1, rfl, World.block_lt_of_cell? _ _ c1⟩
  have HL := Lib.hid hlim
  clear hlim
  go_enter Try.func29, Try.ntmps29
  go_wp2_with fail
  go_loopw [7] (fun i wr => ∃ k : Nat, k ≤ xs.length ∧ i = .int .i64 k ∧ Below w.heap.size w wr ∧ ∀ x ∈ xs.take k, isB x) (fun i _ => xs.length - (intOf i).toNat)
  case atStart => exact ⟨0, Nat.zero_le _, rfl, Below.refl _ _, fun x hx => by simp at hx⟩
  case round =>
    obtain ⟨k, hk, rfl, be, ht⟩ := hrel
    have HT := Lib.hid ht
    clear ht
    have zr := be.size
    by_cases hlt : k < xs.length
    · obtain ⟨b1, o1, x, rfl, l1, c1, e1, f1⟩ := t.at hlt
      have c2 := ck be c1
      have hB := isByte_any x
      by_cases h0 : isB x
      · have HN := Lib.hid (take_all HT.out e1 h0)
        rw [show decide (0 ≤ x ∧ x ≤ 255) = true from decide_eq_true h0] at hB
        have HB := Lib.hid hB
        clear e1 hB c1
        go_wp2_with fail
        refine (HB.out _).mono ?_; rintro e w1 ⟨rfl, f2⟩
        go_wp2_with fail
        go_roundw
        case rel => exact ⟨k + 1, by omega, by go_num, be.trans (f2.mono zr), HN.out⟩
        case measure => simp [intOf]; omega
      · have HN := Lib.hid (allB_no e1 h0)
        rw [show decide (0 ≤ x ∧ x ≤ 255) = false from decide_eq_false h0] at hB
        have HB := Lib.hid hB
        clear e1 hB c1
        go_wp2_with fail
        refine (HB.out _).mono ?_; rintro e w1 ⟨rfl, f2⟩
        go_wp2_with fail
        go_ret
        exact ⟨ret_bool HN.out.symm, be.trans (f2.mono zr)⟩
    · have HN := Lib.hid (allB_yes HT.out hlt)
      go_wp2_with fail
      go_ret
      exact ⟨ret_bool HN.out.symm, be⟩

def fourB (xs : List Int) : Bool := decide (xs.length = 4) && allB xs
theorem fourB_elim {xs : List Int} (h : fourB xs = true) : ∃ h0 h1 h2 h3, xs = [h0, h1, h2, h3] ∧ isB h0 ∧ isB h1 ∧ isB h2 ∧ isB h3 := by
  unfold fourB at h
  simp only [Bool.and_eq_true, decide_eq_true_eq] at h
  obtain ⟨h1, h2⟩ := h
  have h2 := allB_mem h2
  match xs, h1 with
  | [a, b, c, d], _ => exact ⟨a, b, c, d, rfl, h2 _ (by simp), h2 _ (by simp), h2 _ (by simp), h2 _ (by simp)⟩
end Go.Proofs.Ytplphfgacomhkaa.L
