/- Whether an automaton is valid: what it means; the program's and the model's. -/
import Derived.Test.YtcinpoeapbgnhaaDfa
namespace Go.Proofs.Ytcinpoeapbgnhaa.L
open Go.RowKit Go.Proofs.Ytcinpoeapbgnhaa.S
set_option linter.unusedVariables false
set_option linter.unusedSimpArgs false

def stB (n : Nat) (s : Int) : Bool := decide (0 ≤ s ∧ s < n)
def rowB8 (n : Nat) (row : List Int) : Bool := decide (row.length = 8) && row.all (stB n)
def dfaOkB (d : DfaC) : Bool := decide (1 ≤ d.next.length ∧ d.next.length ≤ 40 ∧ d.acc.length = d.next.length) && d.next.all (rowB8 d.next.length)
theorem dfaOkB_head {d : DfaC} (h : ¬ (1 ≤ d.next.length ∧ d.next.length ≤ 40 ∧ d.acc.length = d.next.length)) : dfaOkB d = false := by unfold dfaOkB; rw [decide_eq_false h]; rfl
theorem dfaOkB_row {d : DfaC} {k : Nat} (hk : k < d.next.length) (h : rowB8 d.next.length d.next[k] = false) : dfaOkB d = false := by
  unfold dfaOkB
  rw [Bool.and_eq_false_iff]
  right
  rw [List.all_eq_false]
  exact ⟨_, List.getElem_mem hk, by simp [h]⟩
theorem dfaOkB_yes {d : DfaC} (h : 1 ≤ d.next.length ∧ d.next.length ≤ 40 ∧ d.acc.length = d.next.length) (k : d.next.all (rowB8 d.next.length) = true) : dfaOkB d = true := by unfold dfaOkB; rw [decide_eq_true h, k]; rfl
theorem rowB8_len {n : Nat} {row : List Int} (h : ¬ row.length = 8) : rowB8 n row = false := by unfold rowB8; rw [decide_eq_false h]; rfl
theorem rowB8_st {n : Nat} {row : List Int} {j : Nat} {x : Int} (hj : row[j]? = some x) (h : ¬ (0 ≤ x ∧ x < n)) : rowB8 n row = false := by
  unfold rowB8
  rw [Bool.and_eq_false_iff]
  right
  rw [List.all_eq_false]
  exact ⟨x, List.mem_of_getElem? hj, by unfold stB; simpa using h⟩
theorem rowB8_yes {n : Nat} {row : List Int} (h : row.length = 8) (k : row.all (stB n) = true) : rowB8 n row = true := by unfold rowB8; rw [decide_eq_true h, k]; rfl
theorem all_step {α : Type} {p : α → Bool} {xs : List α} {k : Nat} (hk : k < xs.length) (h : (xs.take k).all p = true) (h2 : p xs[k] = true) : (xs.take (k + 1)).all p = true := by
  rw [List.take_succ_eq_append_getElem hk, List.all_append, h]
  simp [h2]
theorem all_step' {α : Type} {p : α → Bool} {xs : List α} {k : Nat} {x : α} (hk : xs[k]? = some x) (h : (xs.take k).all p = true) (h2 : p x = true) : (xs.take (k + 1)).all p = true := by
  obtain ⟨hl, rfl⟩ := List.getElem?_eq_some_iff.1 hk
  exact all_step hl h h2

set_option maxRecDepth 100000 in
set_option maxHeartbeats 3200000 in
theorem dfaOk_impl (o l h vn va) (d : DfaC) (w : World) (t : DfaR o l h w vn va d) (hw : h ≤ w.heap.size) :
    Calls Try.prog 16 #[.agg #[vn, va]] w fun e w' => e = .returned (.bool (dfaOkB d)) ∧ Below w.heap.size w w' := by
  obtain ⟨tn, ta⟩ := t.parts
  obtain ⟨an, kn, rfl, ln, bn⟩ := tn.shape
  obtain ⟨aa, ka, rfl, la, ba⟩ := ta.shape
  by_cases h1 : d.next.length < 1
  · rw [dfaOkB_head (by omega)]
    go_enter Try.func16, Try.ntmps16
    go_wp2_with fail
    go_ret
    exact ⟨rfl, by (repeat (with_reducible first | exact bR _ _ | assumption | refine bD ?_ | refine bN ?_ _ | refine bA ?_ _ | refine bS ?_ _))⟩
  by_cases h2 : d.next.length > 40
  · rw [dfaOkB_head (by omega)]
    go_enter Try.func16, Try.ntmps16
    go_wp2_with fail
    go_ret
    exact ⟨rfl, by (repeat (with_reducible first | exact bR _ _ | assumption | refine bD ?_ | refine bN ?_ _ | refine bA ?_ _ | refine bS ?_ _))⟩
  by_cases h3 : d.acc.length = d.next.length
  case' neg =>
    rw [dfaOkB_head (by omega)]
    have hne : ((d.acc.length : Int) != (d.next.length : Int)) = true := by simp; omega
    go_enter Try.func16, Try.ntmps16
    go_wp2_with fail
    go_ret
    exact ⟨rfl, by (repeat (with_reducible first | exact bR _ _ | assumption | refine bD ?_ | refine bN ?_ _ | refine bA ?_ _ | refine bS ?_ _))⟩
  have hne : ((d.acc.length : Int) != (d.next.length : Int)) = false := by simp [h3]
  have H3 := Lib.hid h3
  clear h3 ta
  go_enter Try.func16, Try.ntmps16
  go_wp2_with fail
  go_loopw [27] (fun i wr => ∃ k : Nat, k ≤ d.next.length ∧ i = .int .i64 k ∧ Below w.heap.size w wr ∧ (d.next.take k).all (rowB8 d.next.length) = true) (fun i _ => d.next.length - (intOf i).toNat)
  case atStart => exact ⟨0, Nat.zero_le _, rfl, by (repeat (with_reducible first | exact bR _ _ | assumption | refine bD ?_ | refine bN ?_ _ | refine bA ?_ _ | refine bS ?_ _)), by simp⟩
  case round =>
    obtain ⟨k, hk, rfl, be, hall⟩ := hrel
    obtain ⟨wo, hwo⟩ : ∃ x, x = wr := ⟨_, rfl⟩
    subst hwo
    have HA := Lib.hid hall
    clear hall
    have zb := be.size
    by_cases hlt : k < d.next.length
    · obtain ⟨b, off, u, rfl, l1, m1, c1, tu⟩ := (tn.keep be hw).at hlt
      obtain ⟨x, kx, rfl, lx, bx⟩ := tu.shape
      by_cases h8 : d.next[k].length = 8
      · have hne8 : ((d.next[k].length : Int) != 8) = false := by simp [h8]
        have H8 := Lib.hid h8
        clear h8
        go_wp2_with fail
        go_loopw [36] (fun i ws => ∃ j : Nat, j ≤ d.next[k].length ∧ i = .int .i64 j ∧ Below wo.heap.size wo ws ∧ (d.next[k].take j).all (stB d.next.length) = true) (fun i _ => d.next[k].length - (intOf i).toNat)
        case atStart => exact ⟨0, Nat.zero_le _, rfl, Below.refl _ _, by simp⟩
        case round =>
          obtain ⟨j, hj, rfl, bs, hin⟩ := hrel
          have HI := Lib.hid hin
          clear hin
          have zs := bs.size
          by_cases hjl : j < d.next[k].length
          · obtain ⟨b2, o2, s, rfl, cs, es, fs⟩ := (tu.keep bs (by omega)).at hjl
            have be2 := be.trans (bs.mono zb)
            by_cases h0 : s < 0
            · have E : Hid (dfaOkB d = false) := Lib.hid (dfaOkB_row hlt (rowB8_st es (by omega)))
              clear es
              go_wp2_with fail
              go_ret
              exact ⟨ret_bool E.out.symm, be2⟩
            · by_cases hn : s < d.next.length
              · have HN : Hid ((d.next[k].take (j + 1)).all (stB d.next.length) = true) := Lib.hid (all_step' es HI.out (by unfold stB; simp; omega))
                clear es
                go_wp2_with fail
                go_roundw
                case rel => exact ⟨j + 1, by omega, by go_num, bs, HN.out⟩
                case measure => simp [intOf]; omega
              · have E : Hid (dfaOkB d = false) := Lib.hid (dfaOkB_row hlt (rowB8_st es (by omega)))
                clear es
                go_wp2_with fail
                go_ret
                exact ⟨ret_bool E.out.symm, be2⟩
          · have hend : Hid ((d.next.take (k + 1)).all (rowB8 d.next.length) = true) := Lib.hid (all_step hlt HA.out (rowB8_yes H8.out (by have := HI.out; rwa [List.take_of_length_le (by omega)] at this)))
            have be2 := be.trans (bs.mono zb)
            go_wp2_with fail
            go_roundw
            case rel => exact ⟨k + 1, by omega, by go_num, be2, hend.out⟩
            case measure => simp [intOf]; omega
      · have hne8 : ((d.next[k].length : Int) != 8) = true := by simp; omega
        have E : Hid (dfaOkB d = false) := Lib.hid (dfaOkB_row hlt (rowB8_len h8))
        clear h8
        go_wp2_with fail
        go_ret
        exact ⟨ret_bool E.out.symm, be⟩
    · have E : Hid (dfaOkB d = true) := Lib.hid (dfaOkB_yes ⟨by omega, by omega, H3.out⟩ (by have := HA.out; rwa [List.take_of_length_le (by omega)] at this))
      go_wp2_with fail
      go_ret
      exact ⟨ret_bool E.out.symm, be⟩

set_option maxRecDepth 100000 in
set_option maxHeartbeats 3200000 in
theorem dfaOk_spec (o l h vn va) (d : DfaC) (w : World) (t : DfaR o l h w vn va d) (hw : h ≤ w.heap.size) :
    Calls Try.prog 15 #[.agg #[vn, va]] w fun e w' => e = .returned (.bool (dfaOkB d)) ∧ Below w.heap.size w w' := by
  obtain ⟨tn, ta⟩ := t.parts
  obtain ⟨an, kn, rfl, ln, bn⟩ := tn.shape
  obtain ⟨aa, ka, rfl, la, ba⟩ := ta.shape
  by_cases h1 : d.next.length < 1
  · rw [dfaOkB_head (by omega)]
    go_enter Try.func15, Try.ntmps15
    go_wp2_with fail
    go_ret
    exact ⟨rfl, by (repeat (with_reducible first | exact bR _ _ | assumption | refine bD ?_ | refine bN ?_ _ | refine bA ?_ _ | refine bS ?_ _))⟩
  by_cases h2 : d.next.length > 40
  · rw [dfaOkB_head (by omega)]
    go_enter Try.func15, Try.ntmps15
    go_wp2_with fail
    go_ret
    exact ⟨rfl, by (repeat (with_reducible first | exact bR _ _ | assumption | refine bD ?_ | refine bN ?_ _ | refine bA ?_ _ | refine bS ?_ _))⟩
  by_cases h3 : d.acc.length = d.next.length
  case' neg =>
    rw [dfaOkB_head (by omega)]
    have hne : ((d.acc.length : Int) != (d.next.length : Int)) = true := by simp; omega
    go_enter Try.func15, Try.ntmps15
    go_wp2_with fail
    go_ret
    exact ⟨rfl, by (repeat (with_reducible first | exact bR _ _ | assumption | refine bD ?_ | refine bN ?_ _ | refine bA ?_ _ | refine bS ?_ _))⟩
  have hne : ((d.acc.length : Int) != (d.next.length : Int)) = false := by simp [h3]
  have H3 := Lib.hid h3
  clear h3 ta
  go_enter Try.func15, Try.ntmps15
  go_wp2_with fail
  go_loopw [3] (fun i wr => ∃ k : Nat, k ≤ d.next.length ∧ i = .int .i64 k ∧ Below w.heap.size w wr ∧ w.heap.size < wr.heap.size ∧ wr.cell? ⟨w.heap.size, 0, none⟩ = some (.slice an d.next.length kn) ∧ (d.next.take k).all (rowB8 d.next.length) = true) (fun i _ => d.next.length - (intOf i).toNat)
  case atStart => exact ⟨0, Nat.zero_le _, rfl, by (repeat (with_reducible first | exact bR _ _ | assumption | refine bD ?_ | refine bN ?_ _ | refine bA ?_ _ | refine bS ?_ _)), by simp, by first | (simp; done) | go_simp, by simp⟩
  case round =>
    obtain ⟨k, hk, rfl, be, zw, cbox, hall⟩ := hrel
    obtain ⟨wo, hwo⟩ : ∃ x, x = wr := ⟨_, rfl⟩
    subst hwo
    have HA := Lib.hid hall
    clear hall
    have zb := be.size
    by_cases hlt : k < d.next.length
    · obtain ⟨b, off, u, rfl, l1, m1, c1, tu⟩ := (tn.keep be hw).at hlt
      obtain ⟨x, kx, rfl, lx, bx⟩ := tu.shape
      by_cases h8 : d.next[k].length = 8
      · have hne8 : ((d.next[k].length : Int) != 8) = false := by simp [h8]
        have H8 := Lib.hid h8
        clear h8
        go_wp2_with fail
        go_loopw [4] (fun i ws => ∃ j : Nat, j ≤ d.next[k].length ∧ i = .int .i64 j ∧ Below wo.heap.size wo ws ∧ (d.next[k].take j).all (stB d.next.length) = true) (fun i _ => d.next[k].length - (intOf i).toNat)
        case atStart => exact ⟨0, Nat.zero_le _, rfl, Below.refl _ _, by simp⟩
        case round =>
          obtain ⟨j, hj, rfl, bs, hin⟩ := hrel
          have HI := Lib.hid hin
          clear hin
          have zs := bs.size
          have cbox2 := ck bs cbox
          have c12 := ck bs c1
          by_cases hjl : j < d.next[k].length
          · obtain ⟨b2, o2, s, rfl, cs, es, fs⟩ := (tu.keep bs (by omega)).at hjl
            have be2 := be.trans (bs.mono zb)
            by_cases h0 : s < 0
            · have E : Hid (dfaOkB d = false) := Lib.hid (dfaOkB_row hlt (rowB8_st es (by omega)))
              have hd0 : decide (s < 0) = true := decide_eq_true h0
              clear es
              go_wp2_with fail
              go_region
              go_wp2_with fail
              go_ret
              exact ⟨ret_bool E.out.symm, by (repeat (with_reducible first | exact bR _ _ | assumption | refine bD ?_ | refine bN ?_ _ | refine bA ?_ _ | refine bS ?_ _))⟩
            · have hd0 : decide (s < 0) = false := decide_eq_false h0
              by_cases hn : s < d.next.length
              · have HN : Hid ((d.next[k].take (j + 1)).all (stB d.next.length) = true) := Lib.hid (all_step' es HI.out (by unfold stB; simp; omega))
                clear es
                go_wp2_with fail
                go_region
                go_wp2_with fail
                go_roundw
                case rel => exact ⟨j + 1, by omega, by go_num, by (repeat (with_reducible first | exact bR _ _ | assumption | refine bD ?_ | refine bN ?_ _ | refine bA ?_ _ | refine bS ?_ _)), HN.out⟩
                case measure => simp [intOf]; omega
              · have E : Hid (dfaOkB d = false) := Lib.hid (dfaOkB_row hlt (rowB8_st es (by omega)))
                clear es
                go_wp2_with fail
                go_region
                go_wp2_with fail
                go_ret
                exact ⟨ret_bool E.out.symm, by (repeat (with_reducible first | exact bR _ _ | assumption | refine bD ?_ | refine bN ?_ _ | refine bA ?_ _ | refine bS ?_ _))⟩
          · have hend : Hid ((d.next.take (k + 1)).all (rowB8 d.next.length) = true) := Lib.hid (all_step hlt HA.out (rowB8_yes H8.out (by have := HI.out; rwa [List.take_of_length_le (by omega)] at this)))
            have be2 := be.trans (bs.mono zb)
            go_wp2_with fail
            go_roundw
            case rel => exact ⟨k + 1, by omega, by go_num, be2, by omega, cbox2, hend.out⟩
            case measure => simp [intOf]; omega
      · have hne8 : ((d.next[k].length : Int) != 8) = true := by simp; omega
        have E : Hid (dfaOkB d = false) := Lib.hid (dfaOkB_row hlt (rowB8_len h8))
        clear h8
        go_wp2_with fail
        go_ret
        exact ⟨ret_bool E.out.symm, be⟩
    · have E : Hid (dfaOkB d = true) := Lib.hid (dfaOkB_yes ⟨by omega, by omega, H3.out⟩ (by have := HA.out; rwa [List.take_of_length_le (by omega)] at this))
      go_wp2_with fail
      go_ret
      exact ⟨ret_bool E.out.symm, be⟩
end Go.Proofs.Ytcinpoeapbgnhaa.L
