/- What solves a system: the model's Solve. -/
import Derived.Test.YtghjcedhoeoiiaaSolveA
namespace Go.Proofs.Ytghjcedhoeoiiaa.L
open Go.RowKit Go.Proofs.Ytghjcedhoeoiiaa.S
set_option linter.unusedVariables false
set_option linter.unusedSimpArgs false

def flB (x : Int) : Bool := decide (0 ≤ x ∧ x < 2147483647)
def solB (s : SysC) (xs : List Int) : Bool := sysOk s && (decide ((xs.length : Int) = s.ins) && (xs.all flB && checkB s (solveL s xs)))
def solL (s : SysC) (xs : List Int) : List Int := if solB s xs = true then solveL s xs else []
theorem solL_no {s : SysC} {xs : List Int} (h : solB s xs = false) : solL s xs = [] := by unfold solL; rw [h]; rfl
theorem solB_sys {s : SysC} {xs : List Int} (h : sysOk s = false) : solB s xs = false := by unfold solB; rw [h]; rfl
theorem solB_len {s : SysC} {xs : List Int} (h : ¬ (xs.length : Int) = s.ins) : solB s xs = false := by unfold solB; rw [decide_eq_false h]; simp
theorem solB_fl {s : SysC} {xs : List Int} {x : Int} (hx : x ∈ xs) (h : flB x = false) : solB s xs = false := by
  have : xs.all flB = false := by
    cases q : xs.all flB with
    | false => rfl
    | true => rw [List.all_eq_true] at q; rw [q x hx] at h; cases h
  unfold solB; rw [this]; simp
theorem solB_check {s : SysC} {xs : List Int} (h : checkB s (solveL s xs) = false) : solB s xs = false := by unfold solB; rw [h]; simp
theorem solB_yes {s : SysC} {xs : List Int} (h0 : sysOk s = true) (h1 : (xs.length : Int) = s.ins) (h2 : xs.all flB = true) (h3 : checkB s (solveL s xs) = true) : solB s xs = true := by
  unfold solB; rw [h0, decide_eq_true h1, h2, h3]; rfl
theorem all_take {xs : List Int} {k : Nat} {x : Int} (h : (xs.take k).all flB = true) (hx : xs[k]? = some x) (hf : flB x = true) : (xs.take (k + 1)).all flB = true := by
  rw [take_step hx, List.all_append, h]; simp [hf]
theorem all_fl {xs : List Int} (h : xs.all flB = true) : ∀ x ∈ xs, fl x := fun x hx => by
  rw [List.all_eq_true] at h
  exact of_decide_eq_true (h x hx)

set_option maxRecDepth 100000 in
set_option maxHeartbeats 6400000 in
theorem solve_spec (o l h vi vo vh vc) (s : SysC) (lim : Nat) (v : Value) (xs : List Int) (w : World) (t : SysR o l h w vi vo vh vc s) (hw : h ≤ w.heap.size) (ti : Ints lim w v xs) (hl : lim ≤ w.heap.size) (ni : xs.length ≤ 1048576) (nh : s.hints.length ≤ 1048576) (no : s.outs.length ≤ 1048576) (nc : s.cons.length ≤ 1048576) :
    Calls Try.prog 19 #[.agg #[vi, vo, vh, vc], v] w fun e w' => ∃ u, e = .returned (.tuple #[u, .bool (solB s xs)]) ∧ Below w.heap.size w w' ∧ Nums true w.heap.size w'.heap.size w' u (solL s xs) := by
  obtain ⟨ao, ko, ah, kh, ac, kc, rfl, rfl, rfl, rfl, lo, bo, lh, bh, lc, bc, fi⟩ := t.shape
  obtain ⟨ai, ki, rfl, lai, bai⟩ := ti.shape
  have HS := Lib.hid (sysOk_specb o l h (.int .i64 s.ins) (.slice ao s.outs.length ko) (.slice ah s.hints.length kh) (.slice ac s.cons.length kc) s)
  have hgo : ∀ b, sysOk s = b → ∀ (w1 : World), Below w.heap.size w w1 → Calls Try.prog 34 #[.agg #[.int .i64 s.ins, .slice ao s.outs.length ko, .slice ah s.hints.length kh, .slice ac s.cons.length kc]] w1 fun e w' => e = .returned (.bool b) ∧ Below w1.heap.size w1 w' := fun b hb w1 e1 =>
    sysOk_specb o l h _ _ _ _ s w1 (t.keep e1 hw) (Nat.le_trans hw e1.size) nh no nc b hb
  have HG := Lib.hid hgo
  clear hgo HS
  cases hk : sysOk s
  case false =>
    have E1 := Lib.hid (solB_sys (xs := xs) hk)
    have HK := Lib.hid (HG.out false hk)
    clear hk
    go_enter Try.func19, Try.ntmps19
    go_wp2_with fail
    refine name_call fun w1 hw1 => ?_
    have b1 : Below w.heap.size w w1 := by rw [hw1]; (repeat (with_reducible first | exact bR _ _ | assumption | refine bD ?_ | refine bN ?_ _ | refine bA ?_ _ | refine bS ?_ _))
    clear hw1
    refine (HK.out w1 b1).mono ?_; rintro e w2 ⟨rfl, f2⟩
    have b2 := b1.trans (f2.mono b1.size)
    go_wp2_with fail
    go_ret2
    exact ⟨_, by rw [E1.out]; rfl, b2, by rw [solL_no E1.out]; exact Nums.nil _ _ _ _⟩
  have OK := Lib.hid hk
  have HK := Lib.hid (HG.out true hk)
  clear hk HG
  by_cases hn : (xs.length : Int) = s.ins
  case' neg =>
    have E1 := Lib.hid (solB_len hn)
    have hne : ((xs.length : Int) != s.ins) = true := by simp [hn]
    go_enter Try.func19, Try.ntmps19
    go_wp2_with fail
    refine name_call fun w1 hw1 => ?_
    have b1 : Below w.heap.size w w1 := by rw [hw1]; (repeat (with_reducible first | exact bR _ _ | assumption | refine bD ?_ | refine bN ?_ _ | refine bA ?_ _ | refine bS ?_ _))
    have cI1 : w1.cell? ⟨w.heap.size, 0, none⟩ = some (.int .i64 s.ins) := by rw [hw1]; first | (simp; done) | go_simp
    clear hw1
    refine (HK.out w1 b1).mono ?_; rintro e w2 ⟨rfl, f2⟩
    have b2 := b1.trans (f2.mono b1.size)
    have cI2 := cell_keep f2 cI1
    go_wp2_with fail
    go_ret2
    exact ⟨_, by rw [E1.out]; rfl, b2, by rw [solL_no E1.out]; exact Nums.nil _ _ _ _⟩
  have hne : ((xs.length : Int) != s.ins) = false := by simp [hn]
  have HN := Lib.hid hn
  clear hn
  go_enter Try.func19, Try.ntmps19
  go_wp2_with fail
  refine name_call fun w1 hw1 => ?_
  have b1 : Below w.heap.size w w1 := by rw [hw1]; (repeat (with_reducible first | exact bR _ _ | assumption | refine bD ?_ | refine bN ?_ _ | refine bA ?_ _ | refine bS ?_ _))
  have z1 : w.heap.size + 1 ≤ w1.heap.size := by rw [hw1]; simp
  have cI1 : w1.cell? ⟨w.heap.size, 0, none⟩ = some (.int .i64 s.ins) := by rw [hw1]; first | (simp; done) | go_simp
  have cO1 : w1.cell? ⟨w.heap.size, 1, none⟩ = some (.slice ao s.outs.length ko) := by rw [hw1]; first | (simp; done) | go_simp
  have cH1 : w1.cell? ⟨w.heap.size, 2, none⟩ = some (.slice ah s.hints.length kh) := by rw [hw1]; first | (simp; done) | go_simp
  have cC1 : w1.cell? ⟨w.heap.size, 3, none⟩ = some (.slice ac s.cons.length kc) := by rw [hw1]; first | (simp; done) | go_simp
  clear hw1
  refine (HK.out w1 b1).mono ?_; rintro e w2 ⟨rfl, f2⟩
  have z2 := f2.size
  have b2 := b1.trans (f2.mono b1.size)
  have cI2 := cell_keep f2 cI1
  have cO2 := cell_keep f2 cO1
  have cH2 := cell_keep f2 cH1
  have cC2 := cell_keep f2 cC1
  have lb2 : w.heap.size < w2.heap.size := by omega
  clear cI1 cO1 cH1 cC1
  go_wp2_with fail
  go_loop [6] (fun i => ∃ k : Nat, k ≤ xs.length ∧ i = .int .i64 k ∧ (xs.take k).all flB = true) (fun i => xs.length - (intOf i).toNat)
  case atStart => exact ⟨0, Nat.zero_le _, rfl, rfl⟩
  case round =>
    obtain ⟨k, hk, rfl, hall⟩ := hrel
    have HA := Lib.hid hall
    clear hall
    by_cases hlt : k < xs.length
    · obtain ⟨b1', o1, x, rfl, l1, c1, e1, f1⟩ := (ti.keep b2 hl).at hlt
      have FO := fok_spec x
      cases hf : flB x
      · have E1 := Lib.hid (solB_fl (s := s) (List.mem_of_getElem? e1) hf)
        rw [show decide (0 ≤ x ∧ x < 2147483647) = false from hf] at FO
        have HF := Lib.hid FO
        clear FO hf e1
        go_wp2_with fail
        refine (HF.out _).mono ?_; rintro e w3 ⟨rfl, rfl⟩
        go_wp2_with fail
        go_ret2
        exact ⟨_, by rw [E1.out]; rfl, b2, by rw [solL_no E1.out]; exact Nums.nil _ _ _ _⟩
      · have HN' := Lib.hid (all_take HA.out e1 hf)
        rw [show decide (0 ≤ x ∧ x < 2147483647) = true from hf] at FO
        have HF := Lib.hid FO
        clear FO hf e1
        go_wp2_with fail
        refine (HF.out _).mono ?_; rintro e w3 ⟨rfl, rfl⟩
        go_wp2_with fail
        go_round
        case rel => exact ⟨k + 1, by omega, by go_num, HN'.out⟩
        case measure => simp [intOf]; omega
    · obtain rfl : k = xs.length := by omega
      rw [List.take_length] at HA
      have FL := all_fl HA.out
      have LSV := l3solve_any o l h _ _ _ _ s lim _ xs w2 (t.keep b2 hw) (by omega) (ti.keep b2 hl) (by omega) OK.out HN.out FL
      have HLS := Lib.hid LSV
      clear LSV FL
      go_wp2_with fail
      refine (HLS.out).mono ?_; rintro e w3 ⟨u3, rfl, f3, n3⟩
      have z3 := f3.size
      have b3 := b2.trans (f3.mono (by omega))
      have cI3 := cell_keep f3 cI2
      have cO3 := cell_keep f3 cO2
      have cH3 := cell_keep f3 cH2
      have cC3 := cell_keep f3 cC2
      have hsl : (solveL s xs).length ≤ 1048576 := by
        have := limB_facts (sysOk_limB OK.out)
        have := HN.out
        rw [solveL_len]; omega
      have CK := Lib.hid (check_spec o l h _ _ _ _ s w3.heap.size u3 (solveL s xs) w3 (t.keep b3 hw) (by omega) n3.ints (Nat.le_refl _) hsl nh no nc)
      obtain ⟨ra, rc, rfl, rl, rb⟩ := n3.shape
      have lb3 : w.heap.size < w3.heap.size := by omega
      cases hc : checkB s (solveL s xs)
      · have E1 := Lib.hid (solB_check hc)
        rw [hc] at CK
        clear hc hsl
        go_wp2_with fail
        refine (CK.out).mono ?_; rintro e w4 ⟨rfl, f4⟩
        have b4 := b3.trans (f4.mono (by omega))
        go_wp2_with fail
        go_ret2
        exact ⟨_, by rw [E1.out]; rfl, b4, by rw [solL_no E1.out]; exact Nums.nil _ _ _ _⟩
      · have E1 := Lib.hid (solB_yes OK.out HN.out HA.out hc)
        have E2 : Hid (solL s xs = solveL s xs) := Lib.hid (if_pos E1.out)
        rw [hc] at CK
        clear hc hsl
        go_wp2_with fail
        refine (CK.out).mono ?_; rintro e w4 ⟨rfl, f4⟩
        have b4 := b3.trans (f4.mono (by omega))
        have n4 := (n3.keep f4 (Nat.le_refl _)).mono (l' := w.heap.size) (h' := w4.heap.size) (by omega) f4.size
        have HN4 := Lib.hid n4
        clear n3 n4
        go_wp2_with fail
        go_ret2
        exact ⟨_, by rw [E1.out]; rfl, b4, by rw [E2.out]; exact HN4.out⟩
end Go.Proofs.Ytghjcedhoeoiiaa.L
