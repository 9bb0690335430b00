/- An automaton that runs over a text: what it does; the program's (through the interface) and the model's. -/
import Derived.Test.YtcinpoeapbgnhaaDfaN
import Derived.Test.YtcinpoeapbgnhaaByts2
namespace Go.Proofs.Ytcinpoeapbgnhaa.L
open Go.RowKit Go.Proofs.Ytcinpoeapbgnhaa.S
set_option linter.unusedVariables false
set_option linter.unusedSimpArgs false

def letB (x : Int) : Bool := decide (97 ≤ x ∧ x < 105)
def stepD (d : DfaC) (s x : Int) : Int := (d.next[s.toNat]?.getD [])[(x - 97).toNat]?.getD 0
def runD (d : DfaC) (xs : List Int) : Int := xs.foldl (stepD d) 0
def acceptB (d : DfaC) (xs : List Int) : Bool := decide (xs.length ≤ 100) && xs.all letB && d.acc[(runD d xs).toNat]?.getD false
def runsB (d : DfaC) (xs : List Int) : Bool := dfaOkB d && acceptB d xs
theorem runD_snoc (d : DfaC) (xs : List Int) (x : Int) : runD d (xs ++ [x]) = stepD d (runD d xs) x := by unfold runD; rw [List.foldl_append]; rfl
theorem runD_step {d : DfaC} {xs : List Int} {k : Nat} (hk : k < xs.length) : runD d (xs.take (k + 1)) = stepD d (runD d (xs.take k)) xs[k] := by rw [List.take_succ_eq_append_getElem hk, runD_snoc]
theorem letB_iff {x : Int} : letB x = true ↔ 97 ≤ x ∧ x < 105 := by unfold letB; simp
theorem stepD_at {d : DfaC} (h : dfaOkB d = true) {s x : Int} (hs : 0 ≤ s ∧ s < d.next.length) (hx : letB x = true) : ∃ hi : s.toNat < d.next.length, ∃ hj : (x - 97).toNat < (d.next[s.toNat]).length, stepD d s x = d.next[s.toNat][(x - 97).toNat] ∧ 0 ≤ stepD d s x ∧ stepD d s x < d.next.length := by
  rw [letB_iff] at hx
  have hi : s.toNat < d.next.length := by omega
  obtain ⟨h8, hm⟩ := dfaOkB_rows h _ (List.getElem_mem hi)
  have hj : (x - 97).toNat < (d.next[s.toNat]).length := by omega
  have e : stepD d s x = d.next[s.toNat][(x - 97).toNat] := by unfold stepD; rw [List.getElem?_eq_getElem hi]; simp only [Option.getD_some]; rw [List.getElem?_eq_getElem hj]; rfl
  refine ⟨hi, hj, e, ?_⟩
  rw [e]
  exact hm _ (List.getElem_mem hj)
theorem runD_in {d : DfaC} (h : dfaOkB d = true) : ∀ {xs : List Int}, xs.all letB = true → 0 ≤ runD d xs ∧ runD d xs < d.next.length := by
  intro xs
  suffices H : ∀ (xs : List Int) (s : Int), (0 ≤ s ∧ s < d.next.length) → xs.all letB = true → 0 ≤ xs.foldl (stepD d) s ∧ xs.foldl (stepD d) s < d.next.length by
    exact H xs 0 ⟨by omega, by have := dfaOkB_sizes h; omega⟩
  intro xs
  induction xs with
  | nil => intro s hs _; exact hs
  | cons x r ih =>
    intro s hs hl
    rw [List.all_cons, Bool.and_eq_true] at hl
    obtain ⟨_, _, _, h1⟩ := stepD_at h hs hl.1
    exact ih _ h1 hl.2
theorem acceptB_long {d : DfaC} {xs : List Int} (h : ¬ xs.length ≤ 100) : acceptB d xs = false := by unfold acceptB; rw [decide_eq_false h]; rfl
theorem acceptB_bad {d : DfaC} {xs : List Int} {k : Nat} (hk : k < xs.length) (h : letB xs[k] = false) : acceptB d xs = false := by
  unfold acceptB
  have : xs.all letB = false := by rw [List.all_eq_false]; exact ⟨_, List.getElem_mem hk, by simp [h]⟩
  rw [this]; simp
theorem acceptB_end {d : DfaC} {xs : List Int} (h : xs.length ≤ 100) (hl : xs.all letB = true) {j : Nat} (hj : j < d.acc.length) (e : j = (runD d xs).toNat) : acceptB d xs = d.acc[j] := by
  unfold acceptB
  rw [decide_eq_true h, hl, ← e, List.getElem?_eq_getElem hj]; rfl

theorem isLetter_impl (x : Int) (w : World) (x0 : 0 ≤ x) (x1 : x ≤ 255) : Calls Try.prog 59 #[.int .u8 x] w fun e w' => e = .returned (.bool (letB x)) ∧ w = w' := by
  by_cases h1 : 97 ≤ x
  · by_cases h2 : x < 105
    · have H : Hid (letB x = true) := Lib.hid (letB_iff.2 ⟨h1, h2⟩)
      go_enter Try.func59, Try.ntmps59
      go_wp2_with fail
      go_ret
      exact ⟨ret_bool H.out.symm, rfl⟩
    · have H : Hid (letB x = false) := Lib.hid (by unfold letB; simp; omega)
      go_enter Try.func59, Try.ntmps59
      go_wp2_with fail
      go_ret
      exact ⟨ret_bool H.out.symm, rfl⟩
  · have H : Hid (letB x = false) := Lib.hid (by unfold letB; simp; omega)
    go_enter Try.func59, Try.ntmps59
    go_wp2_with fail
    go_ret
    exact ⟨ret_bool H.out.symm, rfl⟩
theorem isLetter_spec (x : Int) (w : World) (x0 : 0 ≤ x) (x1 : x ≤ 255) : Calls Try.prog 58 #[.int .u8 x] w fun e w' => e = .returned (.bool (letB x)) ∧ w = w' := by
  by_cases h1 : 97 ≤ x
  · by_cases h2 : x < 105
    · have H : Hid (letB x = true) := Lib.hid (letB_iff.2 ⟨h1, h2⟩)
      go_enter Try.func58, Try.ntmps58
      go_wp2_with fail
      go_ret
      exact ⟨ret_bool H.out.symm, rfl⟩
    · have H : Hid (letB x = false) := Lib.hid (by unfold letB; simp; omega)
      go_enter Try.func58, Try.ntmps58
      go_wp2_with fail
      go_ret
      exact ⟨ret_bool H.out.symm, rfl⟩
  · have H : Hid (letB x = false) := Lib.hid (by unfold letB; simp; omega)
    go_enter Try.func58, Try.ntmps58
    go_wp2_with fail
    go_ret
    exact ⟨ret_bool H.out.symm, rfl⟩

theorem inv_start (x y : Value) (w : World) : Sem.run Try.prog (method 246 28 (.agg #[x, y]) "loop.example/g00543/impl.start") w = .ok (124, .agg #[x, y]) w := by kernel_rfl
theorem inv_next (x y : Value) (w : World) : Sem.run Try.prog (method 246 28 (.agg #[x, y]) "loop.example/g00543/impl.next") w = .ok (123, .agg #[x, y]) w := by kernel_rfl
theorem inv_accepts (x y : Value) (w : World) : Sem.run Try.prog (method 246 28 (.agg #[x, y]) "loop.example/g00543/impl.accepts") w = .ok (122, .agg #[x, y]) w := by kernel_rfl

theorem dfaStart_any (vn va : Value) (w : World) : Calls Try.prog 124 #[.agg #[vn, va]] w fun e w' => e = .returned (.int .i64 0) ∧ Below w.heap.size w w' := by
  go_enter Try.func124, Try.ntmps124
  go_wp2_with fail
  go_ret
  exact ⟨rfl, by (repeat (with_reducible first | exact bR _ _ | assumption | refine bD ?_ | refine bN ?_ _ | refine bA ?_ _ | refine bS ?_ _))⟩
set_option maxRecDepth 100000 in
theorem dfaNext_any (o l h vn va) (d : DfaC) (s q : Int) (w : World) (t : DfaR o l h w vn va d) (hw : h ≤ w.heap.size) (ok : dfaOkB d = true) (hs : 0 ≤ s ∧ s < d.next.length) (hq : 0 ≤ q ∧ q < 8) :
    Calls Try.prog 123 #[.agg #[vn, va], .int .i64 s, .int .i64 q] w fun e w' => e = .returned (.int .i64 (stepD d s (q + 97))) ∧ Below w.heap.size w w' := by
  obtain ⟨tn, ta⟩ := t.parts
  obtain ⟨an, kn, rfl, ln, bn⟩ := tn.shape
  obtain ⟨aa, ka, rfl, la, ba⟩ := ta.shape
  obtain ⟨hi, hj, e, _⟩ := stepD_at ok hs (show letB (q + 97) = true from letB_iff.2 ⟨by omega, by omega⟩)
  have H := Lib.hid e
  have sz := dfaOkB_sizes ok
  clear e ok
  obtain ⟨i, hii⟩ : ∃ i : Nat, s = (i : Int) := ⟨s.toNat, by omega⟩
  obtain ⟨j, hjj⟩ : ∃ j : Nat, q = (j : Int) := ⟨q.toNat, by omega⟩
  subst hii hjj
  have e1 : ((i : Int)).toNat = i := by omega
  have e2 : ((j : Int) + 97 - 97).toNat = j := by omega
  simp only [e1, e2] at hi hj H
  obtain ⟨b, off, u, rfl, l1, m1, c1, tu⟩ := tn.at hi
  obtain ⟨x, kx, rfl, lx, bx⟩ := tu.shape
  obtain ⟨b2, o2, y, rfl, c2, e2', fy⟩ := tu.at hj
  have H2 : Hid (stepD d (i : Int) ((j : Int) + 97) = y) := Lib.hid (by rw [H.out]; rw [List.getElem?_eq_getElem hj] at e2'; exact Option.some.inj e2')
  clear e2' H tu tn ta t
  have l3 : b < w.heap.size := by omega
  have l4 : b2 < w.heap.size := World.block_lt_of_cell? _ _ c2
  go_enter Try.func123, Try.ntmps123
  go_wp2_with fail
  go_ret
  exact ⟨by rw [H2.out]; rfl, by (repeat (with_reducible first | exact bR _ _ | assumption | refine bD ?_ | refine bN ?_ _ | refine bA ?_ _ | refine bS ?_ _))⟩
set_option maxRecDepth 100000 in
theorem dfaAccepts_any (o l h vn va) (d : DfaC) (s : Int) (w : World) (t : DfaR o l h w vn va d) (hw : h ≤ w.heap.size) (j : Nat) (hs : s = (j : Int)) (hj : j < d.acc.length) :
    Calls Try.prog 122 #[.agg #[vn, va], .int .i64 s] w fun e w' => e = .returned (.bool d.acc[j]) ∧ Below w.heap.size w w' := by
  obtain ⟨tn, ta⟩ := t.parts
  obtain ⟨an, kn, rfl, ln, bn⟩ := tn.shape
  obtain ⟨aa, ka, rfl, la, ba⟩ := ta.shape
  subst hs
  obtain ⟨b, off, rfl, l1, m1, c1⟩ := ta.at hj
  obtain ⟨y, hy⟩ : ∃ y, y = d.acc[j] := ⟨_, rfl⟩
  rw [← hy] at c1 ⊢
  clear hy tn ta t
  have l4 : b < w.heap.size := World.block_lt_of_cell? _ _ c1
  go_enter Try.func122, Try.ntmps122
  go_wp2_with fail
  go_ret
  exact ⟨rfl, by (repeat (with_reducible first | exact bR _ _ | assumption | refine bD ?_ | refine bN ?_ _ | refine bA ?_ _ | refine bS ?_ _))⟩

set_option maxRecDepth 100000 in
set_option maxHeartbeats 3200000 in
theorem accepted_any (o l h vn va) (d : DfaC) (o2 l2 h2 v) (xs : List Int) (w : World) (t : DfaR o l h w vn va d) (hw : h ≤ w.heap.size) (tx : Byts o2 l2 h2 w v xs) (hx : h2 ≤ w.heap.size) (hb : bytesIn xs) (ok : dfaOkB d = true) :
    Calls Try.prog 45 #[.iface 28 (.agg #[vn, va]), v] w fun e w' => e = .returned (.bool (acceptB d xs)) ∧ Below w.heap.size w w' := by
  obtain ⟨a, ca, rfl, lc, bc⟩ := tx.shape
  have sz := dfaOkB_sizes ok
  have HB := Lib.hid hb
  have OK := Lib.hid ok
  have i1 := inv_start vn va
  have i2 := inv_next vn va
  have i3 := inv_accepts vn va
  clear hb ok
  by_cases h100 : xs.length ≤ 100
  case' neg =>
    have E : Hid (acceptB d xs = false) := Lib.hid (acceptB_long h100)
    go_enter Try.func45, Try.ntmps45
    go_wp2_with fail
    go_ret
    exact ⟨ret_bool E.out.symm, by (repeat (with_reducible first | exact bR _ _ | assumption | refine bD ?_ | refine bN ?_ _ | refine bA ?_ _ | refine bS ?_ _))⟩
  go_enter Try.func45, Try.ntmps45
  go_wp2_with fail
  refine (dfaStart_any vn va _).mono ?_; rintro e w1 ⟨rfl, f1⟩
  have z1 := f1.size
  go_wp2_with fail
  go_loopw [5, 15] (fun s i wr => ∃ k : Nat, k ≤ xs.length ∧ i = .int .i64 k ∧ s = .int .i64 (runD d (xs.take k)) ∧ (xs.take k).all letB = true ∧ Below w.heap.size w wr) (fun _ i _ => xs.length - (intOf i).toNat)
  case atStart => exact ⟨0, Nat.zero_le _, rfl, rfl, by simp, f1⟩
  case round =>
    obtain ⟨k, hk, rfl, rfl, hal, be⟩ := hrel
    have zb := be.size
    have rin := runD_in OK.out hal
    by_cases hlt : k < xs.length
    · obtain ⟨b, off, rfl, l1, m1, c1⟩ := (tx.keep be hx).at hlt
      have hxb := HB.out _ (List.getElem_mem hlt)
      have HS := Lib.hid (runD_step (d := d) hlt)
      cases hle : letB xs[k]
      · have E : Hid (acceptB d xs = false) := Lib.hid (acceptB_bad hlt hle)
        have HL := Lib.hid hle
        clear hle hal
        obtain ⟨y, hy⟩ : ∃ y, y = xs[k] := ⟨_, rfl⟩
        rw [← hy] at c1 hxb HL
        clear hy
        go_wp2_with fail
        refine (isLetter_impl y _ hxb.1 hxb.2).mono ?_; rw [HL.out]; rintro e w2 ⟨rfl, rfl⟩
        go_wp2_with fail
        go_ret
        exact ⟨ret_bool E.out.symm, be⟩
      · have HA : Hid ((xs.take (k + 1)).all letB = true) := Lib.hid (all_step hlt hal hle)
        have hl2 := letB_iff.1 hle
        have HL := Lib.hid hle
        clear hle hal
        obtain ⟨y, hy⟩ : ∃ y, y = xs[k] := ⟨_, rfl⟩
        rw [← hy] at c1 hxb HL hl2 HS
        obtain ⟨s, hs⟩ : ∃ s, s = runD d (xs.take k) := ⟨_, rfl⟩
        rw [← hs] at HS rin ⊢
        clear hy hs
        have ws : IntKind.u8.wrap (y - 97) = y - 97 := by rw [IntKind.wrap_u8]; omega
        go_wp2_with fail
        refine (isLetter_impl y _ hxb.1 hxb.2).mono ?_; rw [HL.out]; rintro e w2 ⟨rfl, rfl⟩
        go_wp2_with fail
        refine (dfaNext_any o l h vn va d s (y - 97) _ (t.keep be hw) (by omega) OK.out rin (by omega)).mono ?_; rintro e w3 ⟨rfl, f3⟩
        go_wp2_with fail
        go_roundw
        case rel => exact ⟨k + 1, by omega, by go_num, by rw [HS.out], HA.out, be.trans (f3.mono zb)⟩
        case measure => simp [intOf]; omega
    · obtain rfl : k = xs.length := by omega
      rw [List.take_length] at rin hal ⊢
      obtain ⟨j, hj⟩ : ∃ j : Nat, runD d xs = (j : Int) := ⟨(runD d xs).toNat, by omega⟩
      have hjl : j < d.acc.length := by omega
      have E : Hid (acceptB d xs = d.acc[j]) := Lib.hid (acceptB_end h100 hal hjl (by rw [hj]; rfl))
      rw [hj]
      clear hal
      go_wp2_with fail
      refine (dfaAccepts_any o l h vn va d j _ (t.keep be hw) (by omega) j rfl hjl).mono ?_; rintro e w3 ⟨rfl, f3⟩
      go_wp2_with fail
      go_ret
      exact ⟨ret_bool E.out.symm, be.trans (f3.mono zb)⟩

theorem stepD_nat {d : DfaC} (h : dfaOkB d = true) {i p : Nat} (hi : i < d.next.length) (hp : p < 8) : ∃ (hi : i < d.next.length) (hj : p < d.next[i].length), stepD d (i : Int) ((p + 97 : Nat) : Int) = d.next[i][p] := by
  obtain ⟨h8, _⟩ := dfaOkB_rows h _ (List.getElem_mem hi)
  have hj : p < d.next[i].length := by omega
  refine ⟨hi, hj, ?_⟩
  unfold stepD
  rw [show ((i : Int)).toNat = i from by omega, show (((p + 97 : Nat) : Int) - 97).toNat = p from by omega, List.getElem?_eq_getElem hi]
  simp only [Option.getD_some]
  rw [List.getElem?_eq_getElem hj]; rfl

set_option maxRecDepth 100000 in
set_option maxHeartbeats 3200000 in
theorem l6runs_any (o l h vn va) (d : DfaC) (o2 l2 h2 v) (xs : List Int) (w : World) (t : DfaR o l h w vn va d) (hw : h ≤ w.heap.size) (tx : Byts o2 l2 h2 w v xs) (hx : h2 ≤ w.heap.size) (hb : bytesIn xs) (ok : dfaOkB d = true) (h100 : xs.length ≤ 100) :
    Calls Try.prog 44 #[.agg #[vn, va], v] w fun e w' => e = .returned (.bool (acceptB d xs)) ∧ Below w.heap.size w w' := by
  obtain ⟨tn, ta⟩ := t.parts
  obtain ⟨an, kn, rfl, ln, bn⟩ := tn.shape
  obtain ⟨aa, ka, rfl, la, ba⟩ := ta.shape
  obtain ⟨a, ca, rfl, lc, bc⟩ := tx.shape
  have sz := dfaOkB_sizes ok
  have SZ := Lib.hid sz.2.2
  have sz1 := sz.1
  have sz2 := sz.2.1
  have HB := Lib.hid hb
  have OK := Lib.hid ok
  clear hb ok sz
  go_enter Try.func44, Try.ntmps44
  go_wp2_with fail
  go_loopw [5, 6] (fun s i wr => ∃ k : Nat, k ≤ xs.length ∧ i = .int .i64 k ∧ s = .int .i64 (runD d (xs.take k)) ∧ (xs.take k).all letB = true ∧ Below w.heap.size w wr ∧ w.heap.size < wr.heap.size ∧ wr.cell? ⟨w.heap.size, 0, none⟩ = some (.slice an d.next.length kn) ∧ wr.cell? ⟨w.heap.size, 1, none⟩ = some (.slice aa d.acc.length ka)) (fun _ i _ => xs.length - (intOf i).toNat)
  case atStart => exact ⟨0, Nat.zero_le _, rfl, rfl, by simp, by (repeat (with_reducible first | exact bR _ _ | assumption | refine bD ?_ | refine bN ?_ _ | refine bA ?_ _ | refine bS ?_ _)), by simp, by first | (simp; done) | go_simp, by first | (simp; done) | go_simp⟩
  case round =>
    obtain ⟨k, hk, rfl, rfl, hal, be, zw, cN, cA⟩ := hrel
    have zb := be.size
    have rin := runD_in OK.out hal
    by_cases hlt : k < xs.length
    · obtain ⟨b, off, rfl, l1, m1, c1⟩ := (tx.keep be hx).at hlt
      have hxb := HB.out _ (List.getElem_mem hlt)
      have HS := Lib.hid (runD_step (d := d) hlt)
      cases hle : letB xs[k]
      · have E : Hid (acceptB d xs = false) := Lib.hid (acceptB_bad hlt hle)
        have HL := Lib.hid hle
        clear hle hal
        obtain ⟨y, hy⟩ : ∃ y, y = xs[k] := ⟨_, rfl⟩
        rw [← hy] at c1 hxb HL
        clear hy
        go_wp2_with fail
        refine (isLetter_spec y _ hxb.1 hxb.2).mono ?_; rw [HL.out]; rintro e w2 ⟨rfl, rfl⟩
        go_wp2_with fail
        go_ret
        exact ⟨ret_bool E.out.symm, be⟩
      · have HA : Hid ((xs.take (k + 1)).all letB = true) := Lib.hid (all_step hlt hal hle)
        have hl2 := letB_iff.1 hle
        obtain ⟨i, hii⟩ : ∃ i : Nat, runD d (xs.take k) = (i : Int) := ⟨(runD d (xs.take k)).toNat, by omega⟩
        obtain ⟨p, hqq⟩ : ∃ p : Nat, xs[k] = ((p + 97 : Nat) : Int) := ⟨(xs[k] - 97).toNat, by omega⟩
        rw [hii] at HS rin ⊢
        rw [hqq] at HS c1 hxb hle hl2
        obtain ⟨hi, hj, e⟩ := stepD_nat (i := i) (p := p) OK.out (by omega) (by omega)
        obtain ⟨b1, o1, u, rfl, l3, m3, c2, tu⟩ := (tn.keep be hw).at hi
        obtain ⟨x, kx, rfl, lx, bx⟩ := tu.shape
        obtain ⟨b2, o2, y, rfl, c3, e3, fy⟩ := tu.at hj
        have H2 : Hid (stepD d (i : Int) ((p + 97 : Nat) : Int) = y) := Lib.hid (by rw [e]; rw [List.getElem?_eq_getElem hj] at e3; exact Option.some.inj e3)
        have HL := Lib.hid hle
        have ws : IntKind.u8.wrap (((p + 97 : Nat) : Int) - 97) = (p : Int) := by rw [IntKind.wrap_u8]; omega
        have lb1 : b1 < wr.heap.size := World.block_lt_of_cell? _ _ c2
        have lb2 : b2 < wr.heap.size := World.block_lt_of_cell? _ _ c3
        clear e e3 hal tu hle hii hqq
        go_wp2_with fail
        refine (isLetter_spec _ _ hxb.1 hxb.2).mono ?_; rw [HL.out]; rintro e w2 ⟨rfl, rfl⟩
        go_wp2_with fail
        go_region
        go_wp2_with fail
        go_roundw
        case rel => exact ⟨k + 1, by omega, by go_num, by rw [HS.out, H2.out], HA.out, by (repeat (with_reducible first | exact bR _ _ | assumption | refine bD ?_ | refine bN ?_ _ | refine bA ?_ _ | refine bS ?_ _)), zw, cN, cA⟩
        case measure => simp [intOf]; omega
    · obtain rfl : k = xs.length := by omega
      rw [List.take_length] at rin hal ⊢
      obtain ⟨j, hj⟩ : ∃ j : Nat, runD d xs = (j : Int) := ⟨(runD d xs).toNat, by omega⟩
      have hjl : j < d.acc.length := by have := SZ.out; omega
      have E : Hid (acceptB d xs = d.acc[j]) := Lib.hid (acceptB_end h100 hal hjl (by rw [hj]; rfl))
      obtain ⟨b, off, rfl, l1, m1, c1⟩ := (ta.keep be hw).at hjl
      obtain ⟨y, hy⟩ : ∃ y, y = d.acc[j] := ⟨_, rfl⟩
      rw [← hy] at c1 E
      rw [hj]
      have lb1 : b < wr.heap.size := World.block_lt_of_cell? _ _ c1
      clear hal hy
      go_wp2_with fail
      go_ret
      exact ⟨ret_bool E.out.symm, be⟩

set_option maxRecDepth 100000 in
set_option maxHeartbeats 3200000 in
theorem runs_impl (o l h vn va) (d : DfaC) (o2 l2 h2 v) (xs : List Int) (w : World) (t : DfaR o l h w vn va d) (hw : h ≤ w.heap.size) (tx : Byts o2 l2 h2 w v xs) (hx : h2 ≤ w.heap.size) (hb : bytesIn xs) :
    Calls Try.prog 25 #[.agg #[vn, va], v] w fun e w' => e = .returned (.bool (runsB d xs)) ∧ Below w.heap.size w w' := by
  obtain ⟨tn, ta⟩ := t.parts
  obtain ⟨an, kn, rfl, ln, bn⟩ := tn.shape
  obtain ⟨aa, ka, rfl, la, ba⟩ := ta.shape
  obtain ⟨a, ca, rfl, lc, bc⟩ := tx.shape
  have hok := dfaOk_impl o l h (.slice an d.next.length kn) (.slice aa d.acc.length ka) d
  have HOK := Lib.hid hok
  clear hok
  cases h1 : dfaOkB d
  case false =>
    have HR : Hid (runsB d xs = false) := Lib.hid (by unfold runsB; rw [h1]; rfl)
    have H1 := Lib.hid h1
    clear h1
    go_enter Try.func25, Try.ntmps25
    go_wp2_with fail
    refine name_call fun w1 hw1 => ?_
    have b1 : Below w.heap.size w w1 := by rw [hw1]; (repeat (with_reducible first | exact bR _ _ | assumption | refine bD ?_ | refine bN ?_ _ | refine bA ?_ _ | refine bS ?_ _))
    have z1 : w.heap.size + 1 ≤ w1.heap.size := by rw [hw1]; simp
    have e1 : Below w.heap.size w w1 := by rw [hw1]; (repeat (with_reducible first | exact bR _ _ | assumption | refine bD ?_ | refine bN ?_ _ | refine bA ?_ _ | refine bS ?_ _))
    have cB01 : w1.cell? ⟨w.heap.size, 0, none⟩ = some (.slice an d.next.length kn) := by rw [hw1]; first | (simp; done) | go_simp
    have cB11 : w1.cell? ⟨w.heap.size, 1, none⟩ = some (.slice aa d.acc.length ka) := by rw [hw1]; first | (simp; done) | go_simp
    have tD1 := t.keep e1 (by omega)
    have tX1 := tx.keep e1 (by omega)
    clear hw1
    refine (HOK.out _ tD1 (by omega)).mono ?_; rw [H1.out]; rintro e w2 ⟨rfl, f2⟩
    have b2 := b1.trans (f2.mono (by omega))
    have z2 := f2.size
    have cB02 := ck f2 cB01
    have cB12 := ck f2 cB11
    have tD2 := tD1.keep f2 (by omega)
    have tX2 := tX1.keep f2 (by omega)
    clear cB01 cB11 tD1 tX1
    have lb : w.heap.size < w2.heap.size := by omega
    go_wp2_with fail
    go_ret
    exact ⟨ret_bool HR.out.symm, b2⟩
  case true =>
    have HR : Hid (runsB d xs = acceptB d xs) := Lib.hid (by unfold runsB; rw [h1]; rfl)
    have H1 := Lib.hid h1
    clear h1
    go_enter Try.func25, Try.ntmps25
    go_wp2_with fail
    refine name_call fun w1 hw1 => ?_
    have b1 : Below w.heap.size w w1 := by rw [hw1]; (repeat (with_reducible first | exact bR _ _ | assumption | refine bD ?_ | refine bN ?_ _ | refine bA ?_ _ | refine bS ?_ _))
    have z1 : w.heap.size + 1 ≤ w1.heap.size := by rw [hw1]; simp
    have e1 : Below w.heap.size w w1 := by rw [hw1]; (repeat (with_reducible first | exact bR _ _ | assumption | refine bD ?_ | refine bN ?_ _ | refine bA ?_ _ | refine bS ?_ _))
    have cB01 : w1.cell? ⟨w.heap.size, 0, none⟩ = some (.slice an d.next.length kn) := by rw [hw1]; first | (simp; done) | go_simp
    have cB11 : w1.cell? ⟨w.heap.size, 1, none⟩ = some (.slice aa d.acc.length ka) := by rw [hw1]; first | (simp; done) | go_simp
    have tD1 := t.keep e1 (by omega)
    have tX1 := tx.keep e1 (by omega)
    clear hw1
    refine (HOK.out _ tD1 (by omega)).mono ?_; rw [H1.out]; rintro e w2 ⟨rfl, f2⟩
    have b2 := b1.trans (f2.mono (by omega))
    have z2 := f2.size
    have cB02 := ck f2 cB01
    have cB12 := ck f2 cB11
    have tD2 := tD1.keep f2 (by omega)
    have tX2 := tX1.keep f2 (by omega)
    clear cB01 cB11 tD1 tX1
    have lcB02 : w.heap.size < w2.heap.size := blt cB02
    go_wp2_with fail
    refine name_call fun w3 hw3 => ?_
    have b3 : Below w.heap.size w w3 := by rw [hw3]; (repeat (with_reducible first | exact bR _ _ | assumption | refine bD ?_ | refine bN ?_ _ | refine bA ?_ _ | refine bS ?_ _))
    have z3 : w2.heap.size + 0 ≤ w3.heap.size := by rw [hw3]; simp
    have e3 : Below w2.heap.size w2 w3 := by rw [hw3]; (repeat (with_reducible first | exact bR _ _ | assumption | refine bD ?_ | refine bN ?_ _ | refine bA ?_ _ | refine bS ?_ _))
    have cB03 := ck e3 cB02
    have cB13 := ck e3 cB12
    have tD3 := tD2.keep e3 (by omega)
    have tX3 := tX2.keep e3 (by omega)
    clear hw3 lcB02 cB02 cB12 tD2 tX2
    refine (accepted_any _ _ _ _ _ d _ _ _ _ xs _ tD3 (by omega) tX3 (by omega) hb H1.out).mono ?_; rintro e w4 ⟨rfl, f4⟩
    have b4 := b3.trans (f4.mono (by omega))
    have z4 := f4.size
    have cB04 := ck f4 cB03
    have cB14 := ck f4 cB13
    have tD4 := tD3.keep f4 (by omega)
    have tX4 := tX3.keep f4 (by omega)
    clear cB03 cB13 tD3 tX3
    go_wp2_with fail
    go_ret
    exact ⟨ret_bool HR.out.symm, b4⟩

set_option maxRecDepth 100000 in
set_option maxHeartbeats 3200000 in
theorem runs_spec (o l h vn va) (d : DfaC) (o2 l2 h2 v) (xs : List Int) (w : World) (t : DfaR o l h w vn va d) (hw : h ≤ w.heap.size) (tx : Byts o2 l2 h2 w v xs) (hx : h2 ≤ w.heap.size) (hb : bytesIn xs) :
    Calls Try.prog 23 #[.agg #[vn, va], v] w fun e w' => e = .returned (.bool (runsB d xs)) ∧ Below w.heap.size w w' := by
  obtain ⟨tn, ta⟩ := t.parts
  obtain ⟨an, kn, rfl, ln, bn⟩ := tn.shape
  obtain ⟨aa, ka, rfl, la, ba⟩ := ta.shape
  obtain ⟨a, ca, rfl, lc, bc⟩ := tx.shape
  have hok := dfaOk_spec o l h (.slice an d.next.length kn) (.slice aa d.acc.length ka) d
  have HOK := Lib.hid hok
  clear hok
  cases h1 : dfaOkB d
  case false =>
    have HR : Hid (runsB d xs = false) := Lib.hid (by unfold runsB; rw [h1]; rfl)
    have H1 := Lib.hid h1
    clear h1
    go_enter Try.func23, Try.ntmps23
    go_wp2_with fail
    refine name_call fun w1 hw1 => ?_
    have b1 : Below w.heap.size w w1 := by rw [hw1]; (repeat (with_reducible first | exact bR _ _ | assumption | refine bD ?_ | refine bN ?_ _ | refine bA ?_ _ | refine bS ?_ _))
    have z1 : w.heap.size + 1 ≤ w1.heap.size := by rw [hw1]; simp
    have e1 : Below w.heap.size w w1 := by rw [hw1]; (repeat (with_reducible first | exact bR _ _ | assumption | refine bD ?_ | refine bN ?_ _ | refine bA ?_ _ | refine bS ?_ _))
    have cB01 : w1.cell? ⟨w.heap.size, 0, none⟩ = some (.slice an d.next.length kn) := by rw [hw1]; first | (simp; done) | go_simp
    have cB11 : w1.cell? ⟨w.heap.size, 1, none⟩ = some (.slice aa d.acc.length ka) := by rw [hw1]; first | (simp; done) | go_simp
    have tD1 := t.keep e1 (by omega)
    have tX1 := tx.keep e1 (by omega)
    clear hw1
    refine (HOK.out _ tD1 (by omega)).mono ?_; rw [H1.out]; rintro e w2 ⟨rfl, f2⟩
    have b2 := b1.trans (f2.mono (by omega))
    have z2 := f2.size
    have cB02 := ck f2 cB01
    have cB12 := ck f2 cB11
    have tD2 := tD1.keep f2 (by omega)
    have tX2 := tX1.keep f2 (by omega)
    clear cB01 cB11 tD1 tX1
    have lb : w.heap.size < w2.heap.size := by omega
    go_wp2_with fail
    go_ret
    exact ⟨ret_bool HR.out.symm, b2⟩
  case true =>
    have HR : Hid (runsB d xs = acceptB d xs) := Lib.hid (by unfold runsB; rw [h1]; rfl)
    have H1 := Lib.hid h1
    clear h1
    by_cases h100 : xs.length ≤ 100
    case' neg =>
      have HF : Hid (acceptB d xs = false) := Lib.hid (acceptB_long h100)
      go_enter Try.func23, Try.ntmps23
      go_wp2_with fail
      refine name_call fun w1 hw1 => ?_
      have b1 : Below w.heap.size w w1 := by rw [hw1]; (repeat (with_reducible first | exact bR _ _ | assumption | refine bD ?_ | refine bN ?_ _ | refine bA ?_ _ | refine bS ?_ _))
      have z1 : w.heap.size + 1 ≤ w1.heap.size := by rw [hw1]; simp
      have e1 : Below w.heap.size w w1 := by rw [hw1]; (repeat (with_reducible first | exact bR _ _ | assumption | refine bD ?_ | refine bN ?_ _ | refine bA ?_ _ | refine bS ?_ _))
      have cB01 : w1.cell? ⟨w.heap.size, 0, none⟩ = some (.slice an d.next.length kn) := by rw [hw1]; first | (simp; done) | go_simp
      have cB11 : w1.cell? ⟨w.heap.size, 1, none⟩ = some (.slice aa d.acc.length ka) := by rw [hw1]; first | (simp; done) | go_simp
      have tD1 := t.keep e1 (by omega)
      have tX1 := tx.keep e1 (by omega)
      clear hw1
      refine (HOK.out _ tD1 (by omega)).mono ?_; rw [H1.out]; rintro e w2 ⟨rfl, f2⟩
      have b2 := b1.trans (f2.mono (by omega))
      have z2 := f2.size
      have cB02 := ck f2 cB01
      have cB12 := ck f2 cB11
      have tD2 := tD1.keep f2 (by omega)
      have tX2 := tX1.keep f2 (by omega)
      clear cB01 cB11 tD1 tX1
      have lb : w.heap.size < w2.heap.size := by omega
      go_wp2_with fail
      go_ret
      exact ⟨ret_bool (HR.out.trans HF.out).symm, b2⟩
    go_enter Try.func23, Try.ntmps23
    go_wp2_with fail
    refine name_call fun w1 hw1 => ?_
    have b1 : Below w.heap.size w w1 := by rw [hw1]; (repeat (with_reducible first | exact bR _ _ | assumption | refine bD ?_ | refine bN ?_ _ | refine bA ?_ _ | refine bS ?_ _))
    have z1 : w.heap.size + 1 ≤ w1.heap.size := by rw [hw1]; simp
    have e1 : Below w.heap.size w w1 := by rw [hw1]; (repeat (with_reducible first | exact bR _ _ | assumption | refine bD ?_ | refine bN ?_ _ | refine bA ?_ _ | refine bS ?_ _))
    have cB01 : w1.cell? ⟨w.heap.size, 0, none⟩ = some (.slice an d.next.length kn) := by rw [hw1]; first | (simp; done) | go_simp
    have cB11 : w1.cell? ⟨w.heap.size, 1, none⟩ = some (.slice aa d.acc.length ka) := by rw [hw1]; first | (simp; done) | go_simp
    have tD1 := t.keep e1 (by omega)
    have tX1 := tx.keep e1 (by omega)
    clear hw1
    refine (HOK.out _ tD1 (by omega)).mono ?_; rw [H1.out]; rintro e w2 ⟨rfl, f2⟩
    have b2 := b1.trans (f2.mono (by omega))
    have z2 := f2.size
    have cB02 := ck f2 cB01
    have cB12 := ck f2 cB11
    have tD2 := tD1.keep f2 (by omega)
    have tX2 := tX1.keep f2 (by omega)
    clear cB01 cB11 tD1 tX1
    have lcB02 : w.heap.size < w2.heap.size := blt cB02
    go_wp2_with fail
    refine name_call fun w3 hw3 => ?_
    have b3 : Below w.heap.size w w3 := by rw [hw3]; (repeat (with_reducible first | exact bR _ _ | assumption | refine bD ?_ | refine bN ?_ _ | refine bA ?_ _ | refine bS ?_ _))
    have z3 : w2.heap.size + 0 ≤ w3.heap.size := by rw [hw3]; simp
    have e3 : Below w2.heap.size w2 w3 := by rw [hw3]; (repeat (with_reducible first | exact bR _ _ | assumption | refine bD ?_ | refine bN ?_ _ | refine bA ?_ _ | refine bS ?_ _))
    have cB03 := ck e3 cB02
    have cB13 := ck e3 cB12
    have tD3 := tD2.keep e3 (by omega)
    have tX3 := tX2.keep e3 (by omega)
    clear hw3 lcB02 cB02 cB12 tD2 tX2
    refine (l6runs_any _ _ _ _ _ d _ _ _ _ xs _ tD3 (by omega) tX3 (by omega) hb H1.out h100).mono ?_; rintro e w4 ⟨rfl, f4⟩
    have b4 := b3.trans (f4.mono (by omega))
    have z4 := f4.size
    have cB04 := ck f4 cB03
    have cB14 := ck f4 cB13
    have tD4 := tD3.keep f4 (by omega)
    have tX4 := tX3.keep f4 (by omega)
    clear cB03 cB13 tD3 tX3
    go_wp2_with fail
    go_ret
    exact ⟨ret_bool HR.out.symm, b4⟩
end Go.Proofs.Ytcinpoeapbgnhaa.L
