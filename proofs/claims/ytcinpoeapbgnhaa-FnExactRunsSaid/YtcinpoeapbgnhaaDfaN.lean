/- The number of an automaton's states, and those that accept: the program's and the model's. -/
import Derived.Test.YtcinpoeapbgnhaaDfaOk
namespace Go.Proofs.Ytcinpoeapbgnhaa.L
open Go.RowKit Go.Proofs.Ytcinpoeapbgnhaa.S
set_option linter.unusedVariables false
set_option linter.unusedSimpArgs false

def ResI (w : World) (xs : List Int) (e : Ending) (w' : World) : Prop := ∃ u, e = .returned u ∧ Below w.heap.size w w' ∧ Nums true w.heap.size w'.heap.size w' u xs
def countD (d : DfaC) : Int := if dfaOkB d = true then (d.next.length : Int) else -1
def accTo (xs : List Bool) : Nat → List Int
  | 0 => []
  | k + 1 => accTo xs k ++ (if xs[k]?.getD false = true then [(k : Int)] else [])
def accL (d : DfaC) : List Int := if dfaOkB d = true then accTo d.acc d.acc.length else []
theorem accTo_len (xs : List Bool) (k : Nat) : (accTo xs k).length ≤ k := by
  induction k with
  | zero => simp [accTo]
  | succ k ih => simp only [accTo, List.length_append]; split <;> simp <;> omega
theorem accTo_bd (xs : List Bool) (k : Nat) : ∀ x ∈ accTo xs k, 0 ≤ x ∧ x < k := by
  induction k with
  | zero => simp [accTo]
  | succ k ih =>
    intro x hx
    simp only [accTo, List.mem_append] at hx
    rcases hx with hx | hx
    · have := ih x hx; omega
    · split at hx
      · simp at hx; omega
      · cases hx
theorem accTo_yes {xs : List Bool} {k : Nat} (hk : k < xs.length) (h : xs[k] = true) : accTo xs (k + 1) = accTo xs k ++ [(k : Int)] := by
  simp only [accTo]; rw [List.getElem?_eq_getElem hk]; simp [h]
theorem accTo_no {xs : List Bool} {k : Nat} (hk : k < xs.length) (h : xs[k] = false) : accTo xs (k + 1) = accTo xs k := by
  simp only [accTo]; rw [List.getElem?_eq_getElem hk]; simp [h]
theorem accL_len (d : DfaC) : (accL d).length ≤ 40 := by
  unfold accL
  split
  · rename_i h
    have h2 := accTo_len d.acc d.acc.length
    unfold dfaOkB at h
    rw [Bool.and_eq_true, decide_eq_true_eq] at h
    omega
  · simp
theorem dfaOkB_sizes {d : DfaC} (h : dfaOkB d = true) : 1 ≤ d.next.length ∧ d.next.length ≤ 40 ∧ d.acc.length = d.next.length := by
  unfold dfaOkB at h
  rw [Bool.and_eq_true, decide_eq_true_eq] at h
  exact h.1
theorem dfaOkB_rows {d : DfaC} (h : dfaOkB d = true) : ∀ r ∈ d.next, r.length = 8 ∧ ∀ s ∈ r, 0 ≤ s ∧ s < d.next.length := by
  unfold dfaOkB at h
  rw [Bool.and_eq_true] at h
  have := h.2
  rw [List.all_eq_true] at this
  intro r hr
  have h2 := this r hr
  unfold rowB8 at h2
  rw [Bool.and_eq_true, decide_eq_true_eq, List.all_eq_true] at h2
  exact ⟨h2.1, fun s hs => by have := h2.2 s hs; unfold stB at this; simpa using this⟩

set_option maxRecDepth 100000 in
set_option maxHeartbeats 1600000 in
theorem stateCount_impl (o l h vn va) (d : DfaC) (w : World) (t : DfaR o l h w vn va d) (hw : h ≤ w.heap.size) :
    Calls Try.prog 13 #[.agg #[vn, va]] w fun e w' => e = .returned (.int .i64 (countD d)) ∧ Below w.heap.size w w' := by
  obtain ⟨tn, ta⟩ := t.parts
  obtain ⟨an, kn, rfl, ln, bn⟩ := tn.shape
  obtain ⟨aa, ka, rfl, la, ba⟩ := ta.shape
  have hok := dfaOk_impl o l h (.slice an d.next.length kn) (.slice aa d.acc.length ka) d
  have HOK := Lib.hid hok
  clear hok
  cases h1 : dfaOkB d
  case false =>
    have HR : Hid (countD d = -1) := Lib.hid (by unfold countD; rw [h1]; rfl)
    have H1 := Lib.hid h1
    clear h1
    go_enter Try.func13, Try.ntmps13
    go_wp2_with fail
    refine name_call fun w1 hw1 => ?_
    have b1 : Below w.heap.size w w1 := by rw [hw1]; (repeat (with_reducible first | exact bR _ _ | assumption | refine bD ?_ | refine bN ?_ _ | refine bA ?_ _ | refine bS ?_ _))
    have z1 : w.heap.size + 1 ≤ w1.heap.size := by rw [hw1]; simp
    have e1 : Below w.heap.size w w1 := by rw [hw1]; (repeat (with_reducible first | exact bR _ _ | assumption | refine bD ?_ | refine bN ?_ _ | refine bA ?_ _ | refine bS ?_ _))
    have cB01 : w1.cell? ⟨w.heap.size, 0, none⟩ = some (.slice an d.next.length kn) := by rw [hw1]; first | (simp; done) | go_simp
    have cB11 : w1.cell? ⟨w.heap.size, 1, none⟩ = some (.slice aa d.acc.length ka) := by rw [hw1]; first | (simp; done) | go_simp
    have tD1 := t.keep e1 (by omega)
    clear hw1
    refine (HOK.out _ tD1 (by omega)).mono ?_; rw [H1.out]; rintro e w2 ⟨rfl, f2⟩
    have b2 := b1.trans (f2.mono (by omega))
    have z2 := f2.size
    have cB02 := ck f2 cB01
    have cB12 := ck f2 cB11
    have tD2 := tD1.keep f2 (by omega)
    clear cB01 cB11 tD1
    have lb : w.heap.size < w2.heap.size := by omega
    go_wp2_with fail
    go_ret
    exact ⟨by rw [HR.out]; rfl, b2⟩
  case true =>
    have HR : Hid (countD d = (d.next.length : Int)) := Lib.hid (by unfold countD; rw [h1]; rfl)
    have H1 := Lib.hid h1
    clear h1
    go_enter Try.func13, Try.ntmps13
    go_wp2_with fail
    refine name_call fun w1 hw1 => ?_
    have b1 : Below w.heap.size w w1 := by rw [hw1]; (repeat (with_reducible first | exact bR _ _ | assumption | refine bD ?_ | refine bN ?_ _ | refine bA ?_ _ | refine bS ?_ _))
    have z1 : w.heap.size + 1 ≤ w1.heap.size := by rw [hw1]; simp
    have e1 : Below w.heap.size w w1 := by rw [hw1]; (repeat (with_reducible first | exact bR _ _ | assumption | refine bD ?_ | refine bN ?_ _ | refine bA ?_ _ | refine bS ?_ _))
    have cB01 : w1.cell? ⟨w.heap.size, 0, none⟩ = some (.slice an d.next.length kn) := by rw [hw1]; first | (simp; done) | go_simp
    have cB11 : w1.cell? ⟨w.heap.size, 1, none⟩ = some (.slice aa d.acc.length ka) := by rw [hw1]; first | (simp; done) | go_simp
    have tD1 := t.keep e1 (by omega)
    clear hw1
    refine (HOK.out _ tD1 (by omega)).mono ?_; rw [H1.out]; rintro e w2 ⟨rfl, f2⟩
    have b2 := b1.trans (f2.mono (by omega))
    have z2 := f2.size
    have cB02 := ck f2 cB01
    have cB12 := ck f2 cB11
    have tD2 := tD1.keep f2 (by omega)
    clear cB01 cB11 tD1
    have lb : w.heap.size < w2.heap.size := by omega
    go_wp2_with fail
    go_ret
    exact ⟨by rw [HR.out]; rfl, b2⟩

set_option maxRecDepth 100000 in
set_option maxHeartbeats 1600000 in
theorem stateCount_spec (o l h vn va) (d : DfaC) (w : World) (t : DfaR o l h w vn va d) (hw : h ≤ w.heap.size) :
    Calls Try.prog 11 #[.agg #[vn, va]] w fun e w' => e = .returned (.int .i64 (countD d)) ∧ Below w.heap.size w w' := by
  obtain ⟨tn, ta⟩ := t.parts
  obtain ⟨an, kn, rfl, ln, bn⟩ := tn.shape
  obtain ⟨aa, ka, rfl, la, ba⟩ := ta.shape
  have hok := dfaOk_spec o l h (.slice an d.next.length kn) (.slice aa d.acc.length ka) d
  have HOK := Lib.hid hok
  clear hok
  cases h1 : dfaOkB d
  case false =>
    have HR : Hid (countD d = -1) := Lib.hid (by unfold countD; rw [h1]; rfl)
    have H1 := Lib.hid h1
    clear h1
    go_enter Try.func11, Try.ntmps11
    go_wp2_with fail
    refine name_call fun w1 hw1 => ?_
    have b1 : Below w.heap.size w w1 := by rw [hw1]; (repeat (with_reducible first | exact bR _ _ | assumption | refine bD ?_ | refine bN ?_ _ | refine bA ?_ _ | refine bS ?_ _))
    have z1 : w.heap.size + 1 ≤ w1.heap.size := by rw [hw1]; simp
    have e1 : Below w.heap.size w w1 := by rw [hw1]; (repeat (with_reducible first | exact bR _ _ | assumption | refine bD ?_ | refine bN ?_ _ | refine bA ?_ _ | refine bS ?_ _))
    have cB01 : w1.cell? ⟨w.heap.size, 0, none⟩ = some (.slice an d.next.length kn) := by rw [hw1]; first | (simp; done) | go_simp
    have cB11 : w1.cell? ⟨w.heap.size, 1, none⟩ = some (.slice aa d.acc.length ka) := by rw [hw1]; first | (simp; done) | go_simp
    have tD1 := t.keep e1 (by omega)
    clear hw1
    refine (HOK.out _ tD1 (by omega)).mono ?_; rw [H1.out]; rintro e w2 ⟨rfl, f2⟩
    have b2 := b1.trans (f2.mono (by omega))
    have z2 := f2.size
    have cB02 := ck f2 cB01
    have cB12 := ck f2 cB11
    have tD2 := tD1.keep f2 (by omega)
    clear cB01 cB11 tD1
    have lb : w.heap.size < w2.heap.size := by omega
    go_wp2_with fail
    go_ret
    exact ⟨by rw [HR.out]; rfl, b2⟩
  case true =>
    have HR : Hid (countD d = (d.next.length : Int)) := Lib.hid (by unfold countD; rw [h1]; rfl)
    have H1 := Lib.hid h1
    clear h1
    go_enter Try.func11, Try.ntmps11
    go_wp2_with fail
    refine name_call fun w1 hw1 => ?_
    have b1 : Below w.heap.size w w1 := by rw [hw1]; (repeat (with_reducible first | exact bR _ _ | assumption | refine bD ?_ | refine bN ?_ _ | refine bA ?_ _ | refine bS ?_ _))
    have z1 : w.heap.size + 1 ≤ w1.heap.size := by rw [hw1]; simp
    have e1 : Below w.heap.size w w1 := by rw [hw1]; (repeat (with_reducible first | exact bR _ _ | assumption | refine bD ?_ | refine bN ?_ _ | refine bA ?_ _ | refine bS ?_ _))
    have cB01 : w1.cell? ⟨w.heap.size, 0, none⟩ = some (.slice an d.next.length kn) := by rw [hw1]; first | (simp; done) | go_simp
    have cB11 : w1.cell? ⟨w.heap.size, 1, none⟩ = some (.slice aa d.acc.length ka) := by rw [hw1]; first | (simp; done) | go_simp
    have tD1 := t.keep e1 (by omega)
    clear hw1
    refine (HOK.out _ tD1 (by omega)).mono ?_; rw [H1.out]; rintro e w2 ⟨rfl, f2⟩
    have b2 := b1.trans (f2.mono (by omega))
    have z2 := f2.size
    have cB02 := ck f2 cB01
    have cB12 := ck f2 cB11
    have tD2 := tD1.keep f2 (by omega)
    clear cB01 cB11 tD1
    have lb : w.heap.size < w2.heap.size := by omega
    go_wp2_with fail
    go_ret
    exact ⟨by rw [HR.out]; rfl, b2⟩

set_option maxRecDepth 100000 in
set_option maxHeartbeats 3200000 in
theorem accepting_impl (o l h vn va) (d : DfaC) (w : World) (t : DfaR o l h w vn va d) (hw : h ≤ w.heap.size) :
    Calls Try.prog 18 #[.agg #[vn, va]] w (ResI w (accL d)) := by
  obtain ⟨tn, ta⟩ := t.parts
  obtain ⟨an, kn, rfl, ln, bn⟩ := tn.shape
  obtain ⟨aa, ka, rfl, la, ba⟩ := ta.shape
  obtain ⟨i0, hi0, hz0, hz1, hz2⟩ := info_parts intInfo
  have hok := dfaOk_impl o l h (.slice an d.next.length kn) (.slice aa d.acc.length ka) d
  have HOK := Lib.hid hok
  clear hok
  unfold ResI
  cases h1 : dfaOkB d
  case false =>
    have HR : Hid (accL d = []) := Lib.hid (by unfold accL; rw [h1]; rfl)
    have H1 := Lib.hid h1
    clear h1
    go_enter Try.func18, Try.ntmps18
    go_wp2_with fail
    refine name_call fun w1 hw1 => ?_
    have b1 : Below w.heap.size w w1 := by rw [hw1]; (repeat (with_reducible first | exact bR _ _ | assumption | refine bD ?_ | refine bN ?_ _ | refine bA ?_ _ | refine bS ?_ _))
    have z1 : w.heap.size + 1 ≤ w1.heap.size := by rw [hw1]; simp
    have e1 : Below w.heap.size w w1 := by rw [hw1]; (repeat (with_reducible first | exact bR _ _ | assumption | refine bD ?_ | refine bN ?_ _ | refine bA ?_ _ | refine bS ?_ _))
    have cB01 : w1.cell? ⟨w.heap.size, 0, none⟩ = some (.slice an d.next.length kn) := by rw [hw1]; first | (simp; done) | go_simp
    have cB11 : w1.cell? ⟨w.heap.size, 1, none⟩ = some (.slice aa d.acc.length ka) := by rw [hw1]; first | (simp; done) | go_simp
    have tD1 := t.keep e1 (by omega)
    clear hw1
    refine (HOK.out _ tD1 (by omega)).mono ?_; rw [H1.out]; rintro e w2 ⟨rfl, f2⟩
    have b2 := b1.trans (f2.mono (by omega))
    have z2 := f2.size
    have cB02 := ck f2 cB01
    have cB12 := ck f2 cB11
    have tD2 := tD1.keep f2 (by omega)
    clear cB01 cB11 tD1
    have lb : w.heap.size < w2.heap.size := by omega
    go_wp2_with fail
    go_ret
    exact ⟨_, rfl, b2, by rw [HR.out]; exact Nums.nil _ _ _ _⟩
  case true =>
    have HR : Hid (accL d = accTo d.acc d.acc.length) := Lib.hid (by unfold accL; rw [h1]; rfl)
    obtain ⟨s1, s2, s3⟩ := dfaOkB_sizes h1
    have s4 : d.acc.length ≤ 40 := by omega
    clear s1 s2 s3
    have H1 := Lib.hid h1
    clear h1
    go_enter Try.func18, Try.ntmps18
    go_wp2_with fail
    refine name_call fun w1 hw1 => ?_
    have b1 : Below w.heap.size w w1 := by rw [hw1]; (repeat (with_reducible first | exact bR _ _ | assumption | refine bD ?_ | refine bN ?_ _ | refine bA ?_ _ | refine bS ?_ _))
    have z1 : w.heap.size + 1 ≤ w1.heap.size := by rw [hw1]; simp
    have e1 : Below w.heap.size w w1 := by rw [hw1]; (repeat (with_reducible first | exact bR _ _ | assumption | refine bD ?_ | refine bN ?_ _ | refine bA ?_ _ | refine bS ?_ _))
    have cB01 : w1.cell? ⟨w.heap.size, 0, none⟩ = some (.slice an d.next.length kn) := by rw [hw1]; first | (simp; done) | go_simp
    have cB11 : w1.cell? ⟨w.heap.size, 1, none⟩ = some (.slice aa d.acc.length ka) := by rw [hw1]; first | (simp; done) | go_simp
    have tD1 := t.keep e1 (by omega)
    have tA1 := ta.keep e1 (by omega)
    clear hw1
    refine (HOK.out _ tD1 (by omega)).mono ?_; rw [H1.out]; rintro e w2 ⟨rfl, f2⟩
    have b2 := b1.trans (f2.mono (by omega))
    have z2 := f2.size
    have cB02 := ck f2 cB01
    have cB12 := ck f2 cB11
    have tD2 := tD1.keep f2 (by omega)
    have tA2 := tA1.keep f2 (by omega)
    clear cB01 cB11 tD1 tA1
    have lb : w.heap.size < w2.heap.size := by omega
    go_wp2_with fail
    go_loopw [3, 12] (fun v i wr => ∃ k : Nat, k ≤ d.acc.length ∧ i = .int .i64 k ∧ Below w.heap.size w wr ∧ w.heap.size + 1 ≤ wr.heap.size ∧ wr.ownsRow (w.heap.size + 1) 3 1 v (accTo d.acc k).length ((accTo d.acc k).map (Value.int .i64))) (fun _ i _ => d.acc.length - (intOf i).toNat)
    case atStart => exact ⟨0, Nat.zero_le _, rfl, b2, by omega, World.ownsRow_nil _ _ _ _⟩
    case round =>
      obtain ⟨k, hk, rfl, be, zz, hrow⟩ := hrel
      have lw : w.heap.size < wr.heap.size := by omega
      have hlen := accTo_len d.acc k
      by_cases hlt : k < d.acc.length
      · obtain ⟨b, off, rfl, l1, m1, ca⟩ := (ta.keep be hw).at hlt
        cases hv : d.acc[k]
        · rw [hv] at ca
          have HU := Lib.hid (accTo_no hlt hv)
          clear hv
          go_wp2_with fail
          go_roundw
          case rel => exact ⟨k + 1, by omega, by go_num, be, zz, by rw [HU.out]; exact hrow⟩
          case measure => simp [intOf]; omega
        · rw [hv] at ca
          have HU := Lib.hid (accTo_yes hlt hv)
          clear hv
          generalize accTo d.acc k = F at *
          go_wp2_with (at_builtin; refine wpList_append_own _ rfl _ _ 33 rfl (w.heap.size + 1) 3 i0 (.int .i64 0) 1 8 Try.underlying33 hi0 hz0 hz1 hz2 rfl (by decide) _ _ _ rfl (hrow.alloc _) ⟨wr.heap.size, 0, none⟩ 1 1 [.int .i64 ((k : Int))] rfl rfl (cell_one_new' _ _ _) (by simp [Value.oneCell']) (by unfold maxLen; omega) (by omega) (by simp; omega) ?_; intro v' w5 hown' hgrow _)
          have eB : Below (w.heap.size + 1) (wr.alloc (.cells #[.int .i64 ((k : Int))] 3)) w5 := (Below.refl _ _).grown hgrow (by simp; omega) (fun j ej => (hrow.lt j ej).1)
          have be5 : Below w.heap.size w w5 := (be.alloc (by omega) (.cells #[.int .i64 ((k : Int))] 3)).trans (eB.mono (by omega))
          have z5 := hgrow.size
          simp only [World.size_alloc] at z5
          clear hrow
          go_roundw
          case rel => exact ⟨k + 1, by omega, by go_num, be5, by omega, by rw [HU.out]; simpa using hown'⟩
          case measure => simp [intOf]; omega
      · obtain rfl : k = d.acc.length := by omega
        have ht := (Nums.own (ts := accTo d.acc d.acc.length) hrow (fun x hx => by have := accTo_bd _ _ x hx; unfold Fits; omega)).mono (l' := w.heap.size) (h' := wr.heap.size) (by omega) (Nat.le_refl _)
        obtain ⟨g, cg, rfl, lg, bg⟩ := ht.shape
        clear hrow
        go_wp2_with fail
        go_ret
        exact ⟨_, rfl, be, by rw [HR.out]; exact ht⟩

set_option maxRecDepth 100000 in
set_option maxHeartbeats 3200000 in
theorem accepting_spec (o l h vn va) (d : DfaC) (w : World) (t : DfaR o l h w vn va d) (hw : h ≤ w.heap.size) :
    Calls Try.prog 17 #[.agg #[vn, va]] w (ResI w (accL d)) := by
  obtain ⟨tn, ta⟩ := t.parts
  obtain ⟨an, kn, rfl, ln, bn⟩ := tn.shape
  obtain ⟨aa, ka, rfl, la, ba⟩ := ta.shape
  obtain ⟨i0, hi0, hz0, hz1, hz2⟩ := info_parts intInfo
  have hok := dfaOk_spec o l h (.slice an d.next.length kn) (.slice aa d.acc.length ka) d
  have HOK := Lib.hid hok
  clear hok
  unfold ResI
  cases h1 : dfaOkB d
  case false =>
    have HR : Hid (accL d = []) := Lib.hid (by unfold accL; rw [h1]; rfl)
    have H1 := Lib.hid h1
    clear h1
    go_enter Try.func17, Try.ntmps17
    go_wp2_with fail
    refine name_call fun w1 hw1 => ?_
    have b1 : Below w.heap.size w w1 := by rw [hw1]; (repeat (with_reducible first | exact bR _ _ | assumption | refine bD ?_ | refine bN ?_ _ | refine bA ?_ _ | refine bS ?_ _))
    have z1 : w.heap.size + 1 ≤ w1.heap.size := by rw [hw1]; simp
    have e1 : Below w.heap.size w w1 := by rw [hw1]; (repeat (with_reducible first | exact bR _ _ | assumption | refine bD ?_ | refine bN ?_ _ | refine bA ?_ _ | refine bS ?_ _))
    have cB01 : w1.cell? ⟨w.heap.size, 0, none⟩ = some (.slice an d.next.length kn) := by rw [hw1]; first | (simp; done) | go_simp
    have cB11 : w1.cell? ⟨w.heap.size, 1, none⟩ = some (.slice aa d.acc.length ka) := by rw [hw1]; first | (simp; done) | go_simp
    have tD1 := t.keep e1 (by omega)
    clear hw1
    refine (HOK.out _ tD1 (by omega)).mono ?_; rw [H1.out]; rintro e w2 ⟨rfl, f2⟩
    have b2 := b1.trans (f2.mono (by omega))
    have z2 := f2.size
    have cB02 := ck f2 cB01
    have cB12 := ck f2 cB11
    have tD2 := tD1.keep f2 (by omega)
    clear cB01 cB11 tD1
    have lb : w.heap.size < w2.heap.size := by omega
    go_wp2_with fail
    go_ret
    exact ⟨_, rfl, b2, by rw [HR.out]; exact Nums.nil _ _ _ _⟩
  case true =>
    have HR : Hid (accL d = accTo d.acc d.acc.length) := Lib.hid (by unfold accL; rw [h1]; rfl)
    obtain ⟨s1, s2, s3⟩ := dfaOkB_sizes h1
    have s4 : d.acc.length ≤ 40 := by omega
    clear s1 s2 s3
    have H1 := Lib.hid h1
    clear h1
    go_enter Try.func17, Try.ntmps17
    go_wp2_with fail
    refine name_call fun w1 hw1 => ?_
    have b1 : Below w.heap.size w w1 := by rw [hw1]; (repeat (with_reducible first | exact bR _ _ | assumption | refine bD ?_ | refine bN ?_ _ | refine bA ?_ _ | refine bS ?_ _))
    have z1 : w.heap.size + 1 ≤ w1.heap.size := by rw [hw1]; simp
    have e1 : Below w.heap.size w w1 := by rw [hw1]; (repeat (with_reducible first | exact bR _ _ | assumption | refine bD ?_ | refine bN ?_ _ | refine bA ?_ _ | refine bS ?_ _))
    have cB01 : w1.cell? ⟨w.heap.size, 0, none⟩ = some (.slice an d.next.length kn) := by rw [hw1]; first | (simp; done) | go_simp
    have cB11 : w1.cell? ⟨w.heap.size, 1, none⟩ = some (.slice aa d.acc.length ka) := by rw [hw1]; first | (simp; done) | go_simp
    have tD1 := t.keep e1 (by omega)
    have tA1 := ta.keep e1 (by omega)
    clear hw1
    refine (HOK.out _ tD1 (by omega)).mono ?_; rw [H1.out]; rintro e w2 ⟨rfl, f2⟩
    have b2 := b1.trans (f2.mono (by omega))
    have z2 := f2.size
    have cB02 := ck f2 cB01
    have cB12 := ck f2 cB11
    have tD2 := tD1.keep f2 (by omega)
    have tA2 := tA1.keep f2 (by omega)
    clear cB01 cB11 tD1 tA1
    have lb : w.heap.size < w2.heap.size := by omega
    go_wp2_with fail
    go_loopw [3, 4] (fun v i wr => ∃ k : Nat, k ≤ d.acc.length ∧ i = .int .i64 k ∧ Below w.heap.size w wr ∧ w.heap.size + 1 ≤ wr.heap.size ∧ wr.cell? ⟨w.heap.size, 1, none⟩ = some (.slice aa d.acc.length ka) ∧ wr.ownsRow (w.heap.size + 1) 3 1 v (accTo d.acc k).length ((accTo d.acc k).map (Value.int .i64))) (fun _ i _ => d.acc.length - (intOf i).toNat)
    case atStart => exact ⟨0, Nat.zero_le _, rfl, b2, by omega, cB12, World.ownsRow_nil _ _ _ _⟩
    case round =>
      obtain ⟨k, hk, rfl, be, zz, cb, hrow⟩ := hrel
      have lw : w.heap.size < wr.heap.size := by omega
      have hlen := accTo_len d.acc k
      by_cases hlt : k < d.acc.length
      · obtain ⟨b, off, rfl, l1, m1, ca⟩ := (ta.keep be hw).at hlt
        cases hv : d.acc[k]
        · rw [hv] at ca
          have HU := Lib.hid (accTo_no hlt hv)
          clear hv
          go_wp2_with fail
          go_roundw
          case rel => exact ⟨k + 1, by omega, by go_num, be, zz, cb, by rw [HU.out]; exact hrow⟩
          case measure => simp [intOf]; omega
        · rw [hv] at ca
          have HU := Lib.hid (accTo_yes hlt hv)
          clear hv
          generalize accTo d.acc k = F at *
          go_wp2_with (at_builtin; refine wpList_append_own _ rfl _ _ 33 rfl (w.heap.size + 1) 3 i0 (.int .i64 0) 1 8 Try.underlying33 hi0 hz0 hz1 hz2 rfl (by decide) _ _ _ rfl (hrow.alloc _) ⟨wr.heap.size, 0, none⟩ 1 1 [.int .i64 ((k : Int))] rfl rfl (cell_one_new' _ _ _) (by simp [Value.oneCell']) (by unfold maxLen; omega) (by omega) (by simp; omega) ?_; intro v' w5 hown' hgrow _)
          have eB : Below (w.heap.size + 1) (wr.alloc (.cells #[.int .i64 ((k : Int))] 3)) w5 := (Below.refl _ _).grown hgrow (by simp; omega) (fun j ej => (hrow.lt j ej).1)
          have be5 : Below w.heap.size w w5 := (be.alloc (by omega) (.cells #[.int .i64 ((k : Int))] 3)).trans (eB.mono (by omega))
          have z5 := hgrow.size
          simp only [World.size_alloc] at z5
          have cb5 := (eB.cell (p := ⟨w.heap.size, 1, none⟩) (Nat.lt_succ_self _)).trans (alloc_keep cb)
          clear hrow
          go_roundw
          case rel => exact ⟨k + 1, by omega, by go_num, be5, by omega, cb5, by rw [HU.out]; simpa using hown'⟩
          case measure => simp [intOf]; omega
      · obtain rfl : k = d.acc.length := by omega
        have ht := (Nums.own (ts := accTo d.acc d.acc.length) hrow (fun x hx => by have := accTo_bd _ _ x hx; unfold Fits; omega)).mono (l' := w.heap.size) (h' := wr.heap.size) (by omega) (Nat.le_refl _)
        obtain ⟨g, cg, rfl, lg, bg⟩ := ht.shape
        clear hrow
        go_wp2_with fail
        go_ret
        exact ⟨_, rfl, be, by rw [HR.out]; exact ht⟩

end Go.Proofs.Ytcinpoeapbgnhaa.L
