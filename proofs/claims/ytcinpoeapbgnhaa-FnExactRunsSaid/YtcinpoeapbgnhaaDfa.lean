/- Automata: what they read as; copies, sizes, comparison, marks. -/
import Derived.Test.YtcinpoeapbgnhaaBools
import Derived.Test.YtcinpoeapbgnhaaB3
namespace Go.Proofs.Ytcinpoeapbgnhaa.L
open Go.RowKit Go.Proofs.Ytcinpoeapbgnhaa.S
set_option linter.unusedVariables false
set_option linter.unusedSimpArgs false

structure DfaC where
  next : List (List Int)
  acc : List Bool
/-- An automaton's two fields read so. -/
def DfaR (o : Bool) (l h : Nat) (w : World) (vn va : Value) (d : DfaC) : Prop :=
  ∃ l1 h1 l2 h2, l ≤ l1 ∧ h1 ≤ h ∧ l ≤ l2 ∧ h2 ≤ h ∧ (o = true → h1 ≤ l2 ∨ h2 ≤ l1) ∧ IntSS o l1 h1 w vn d.next ∧ Bools o l2 h2 w va d.acc
section
variable {o : Bool} {l h : Nat} {w w' : World} {vn va : Value} {d : DfaC}
theorem DfaR.agree (t : DfaR o l h w vn va d) (a : Same l h w w') : DfaR o l h w' vn va d := by
  obtain ⟨l1, h1, l2, h2, p1, p2, p3, p4, di, t1, t2⟩ := t
  exact ⟨l1, h1, l2, h2, p1, p2, p3, p4, di, t1.agree (a.sub p1 p2), t2.agree (a.sub p3 p4)⟩
theorem DfaR.keep {B : Nat} (t : DfaR o l h w vn va d) (hb : Below B w w') (hl : h ≤ B) : DfaR o l h w' vn va d := t.agree (Same.of_below hb hl)
theorem DfaR.only {lo hi : Nat} (t : DfaR o l h w vn va d) (ho : Only lo hi w w') (hd : h ≤ lo ∨ hi ≤ l) (hs : h ≤ w.heap.size) : DfaR o l h w' vn va d := t.agree (Same.of_only ho hd hs)
theorem DfaR.mono {l' h' : Nat} (t : DfaR o l h w vn va d) (a : l' ≤ l) (b : h ≤ h') : DfaR o l' h' w vn va d := by
  obtain ⟨l1, h1, l2, h2, p1, p2, p3, p4, di, t1, t2⟩ := t
  exact ⟨l1, h1, l2, h2, by omega, by omega, by omega, by omega, di, t1, t2⟩
theorem DfaR.parts (t : DfaR o l h w vn va d) : IntSS o l h w vn d.next ∧ Bools o l h w va d.acc := by
  obtain ⟨l1, h1, l2, h2, p1, p2, p3, p4, di, t1, t2⟩ := t
  exact ⟨t1.mono p1 p2, t2.mono p3 p4⟩
theorem DfaR.shape (t : DfaR o l h w vn va d) : ∃ an kn aa ka, vn = .slice an d.next.length kn ∧ va = .slice aa d.acc.length ka ∧ d.next.length ≤ kn ∧ kn ≤ 9223372036854775807 ∧ d.acc.length ≤ ka ∧ ka ≤ 9223372036854775807 := by
  obtain ⟨t1, t2⟩ := t.parts
  obtain ⟨an, kn, e1, q1, q2⟩ := t1.shape
  obtain ⟨aa, ka, e2, q3, q4⟩ := t2.shape
  exact ⟨an, kn, aa, ka, e1, e2, q1, q2, q3, q4⟩
theorem DfaR.nil (hlh : l ≤ h) : DfaR o l h w (.slice none 0 0) (.slice none 0 0) ⟨[], []⟩ := ⟨l, l, l, h, Nat.le_refl _, hlh, Nat.le_refl _, Nat.le_refl _, fun _ => .inl (Nat.le_refl _), IntSS.nil, Bools.nil _ _ _ _⟩
end
def szD (d : DfaC) : Nat := szIs d.next + d.acc.length
theorem szIs_mem {xs : List (List Int)} {t : List Int} (h : t ∈ xs) : t.length ≤ szIs xs := by
  unfold szIs
  have : t.length ≤ tot List.length xs := by
    unfold tot
    induction xs with
    | nil => cases h
    | cons y r ih =>
      rcases List.mem_cons.1 h with rfl | h
      · simp
      · have := ih h; simp at this ⊢; omega
  omega

set_option maxRecDepth 100000 in
set_option maxHeartbeats 1600000 in
theorem toDfa_any (o l h vn va) (d : DfaC) (w : World) (t : DfaR o l h w vn va d) (hw : h ≤ w.heap.size) (hn : szD d ≤ 1048576) :
    Calls Try.prog 12 #[.agg #[vn, va]] w fun e w' => ∃ un ua, e = .returned (.agg #[un, ua]) ∧ Below w.heap.size w w' ∧ DfaR true w.heap.size w'.heap.size w' un ua d := by
  obtain ⟨tn, ta⟩ := t.parts
  obtain ⟨an, kn, rfl, ln, bn⟩ := tn.shape
  obtain ⟨aa, ka, rfl, la, ba⟩ := ta.shape
  have hn1 : d.next.length ≤ 1048576 := by unfold szD szIs at hn; omega
  have hn2 : d.acc.length ≤ 1048576 := by unfold szD at hn; omega
  have hel : ∀ t ∈ d.next, t.length ≤ 1048576 := fun t ht => by have := szIs_mem ht; unfold szD at hn; omega
  have HE := Lib.hid hel
  clear hel
  go_enter Try.func12, Try.ntmps12
  go_wp2_with fail
  refine name_call fun W0 hW0 => ?_
  have B0 : Below w.heap.size w W0 := by rw [hW0]; (repeat (with_reducible first | exact bR _ _ | assumption | refine bD ?_ | refine bN ?_ _ | refine bA ?_ _ | refine bS ?_ _))
  have Z0 : W0.heap.size = w.heap.size + 3 := by rw [hW0]; simp
  have p00 : W0.cell? ⟨w.heap.size, 0, none⟩ = some (.slice an d.next.length kn) := by rw [hW0]; go_simp
  have p01 : W0.cell? ⟨w.heap.size, 1, none⟩ = some (.slice aa d.acc.length ka) := by rw [hW0]; go_simp
  have q00 : W0.cell? ⟨w.heap.size + 1 + 1, 0, none⟩ = some (.slice none 0 0) := by rw [hW0]; go_simp
  have r00 : W0.cell? ⟨w.heap.size + 1, 0, none⟩ = some (.slice none 0 0) := by rw [hW0]; go_simp
  have q01 : W0.cell? ⟨w.heap.size + 1 + 1, 1, none⟩ = some (.slice none 0 0) := by rw [hW0]; go_simp
  have r01 : W0.cell? ⟨w.heap.size + 1, 1, none⟩ = some (.slice none 0 0) := by rw [hW0]; go_simp
  have F0 : ∀ i, W0.frozen? ⟨w.heap.size + 1 + 1, i, none⟩ = false := by intro i; rw [hW0]; go_simp
  have G0 : ∀ i, W0.frozen? ⟨w.heap.size + 1, i, none⟩ = false := by intro i; rw [hW0]; go_simp
  have s0n := tn.keep B0 hw
  have s0a := ta.keep B0 hw
  clear hW0
  refine (toIntSS_any o l h _ d.next _ s0n (by omega) hn1 HE.out).mono ?_; rintro e w0 ⟨z0, rfl, f0, yy0n⟩
  obtain ⟨cn, mn, rfl, lcn, bcn⟩ := yy0n.shape
  have bb0 := B0.trans (f0.mono (by omega))
  have zz0 := f0.size
  have pp00 := cell_keep f0 p00
  have qq00 := cell_keep f0 q00
  have rr00 := cell_keep f0 r00
  have pp01 := cell_keep f0 p01
  have qq01 := cell_keep f0 q01
  have rr01 := cell_keep f0 r01
  have FF0 : ∀ i, w0.frozen? ⟨w.heap.size + 1 + 1, i, none⟩ = false := fun j => (f0.frozen (p := ⟨w.heap.size + 1 + 1, j, none⟩) (show w.heap.size + 1 + 1 < W0.heap.size by omega)).trans (F0 j)
  have GG0 : ∀ i, w0.frozen? ⟨w.heap.size + 1, i, none⟩ = false := fun j => (f0.frozen (p := ⟨w.heap.size + 1, j, none⟩) (show w.heap.size + 1 < W0.heap.size by omega)).trans (G0 j)
  clear p00 q00 r00 p01 q01 r01 F0 G0 s0n s0a
  have lt0 : w.heap.size + 1 + 1 < w0.heap.size := by omega
  have lu0 : w.heap.size + 1 < w0.heap.size := by omega
  have lv0 : w.heap.size < w0.heap.size := by omega
  go_wp2_with fail
  clear lt0 lu0 lv0
  refine name_call fun W1 hW1 => ?_
  have B1 : Below w.heap.size w W1 := by rw [hW1]; exact Below.setCell bb0 (by simp; omega) _
  have Z1 : W1.heap.size = w0.heap.size := by rw [hW1]; simp [World.setCell]
  have r10 := (show W1.cell? ⟨w.heap.size + 1, 0, none⟩ = w0.cell? ⟨w.heap.size + 1, 0, none⟩ by rw [hW1]; exact World.cell?_setCell_other _ _ _ _ (by simp)).trans rr00
  have q10 : W1.cell? ⟨w.heap.size + 1 + 1, 0, none⟩ = some (.slice cn d.next.length mn) := by rw [hW1]; exact World.cell?_setCell_same _ _ _ qq00
  have r11 := (show W1.cell? ⟨w.heap.size + 1, 1, none⟩ = w0.cell? ⟨w.heap.size + 1, 1, none⟩ by rw [hW1]; exact World.cell?_setCell_other _ _ _ _ (by simp)).trans rr01
  have q11 := (show W1.cell? ⟨w.heap.size + 1 + 1, 1, none⟩ = w0.cell? ⟨w.heap.size + 1 + 1, 1, none⟩ by rw [hW1]; exact World.cell?_setCell_other _ _ _ _ (by simp)).trans qq01
  have F1 : ∀ i, W1.frozen? ⟨w.heap.size + 1 + 1, i, none⟩ = false := by intro i; rw [hW1, World.frozen?_setCell]; exact FF0 i
  have G1 : ∀ i, W1.frozen? ⟨w.heap.size + 1, i, none⟩ = false := by intro i; rw [hW1, World.frozen?_setCell]; exact GG0 i
  have s1a := ta.keep B1 hw
  have y1n := yy0n.agree (show Same _ _ w0 W1 by rw [hW1]; exact same_set (by omega))
  clear hW1 pp00 qq00 rr00 pp01 qq01 rr01 FF0 GG0 yy0n
  refine (toBoolS_own o l h _ d.acc _ s1a (by omega) hn2).mono ?_; rintro e w1 ⟨z1, rfl, f1, yy1a⟩
  obtain ⟨ca, ma, rfl, lca, bca⟩ := yy1a.shape
  have bb1 := B1.trans (f1.mono (by omega))
  have zz1 := f1.size
  have qq10 := cell_keep f1 q10
  have rr10 := cell_keep f1 r10
  have qq11 := cell_keep f1 q11
  have rr11 := cell_keep f1 r11
  have FF1 : ∀ i, w1.frozen? ⟨w.heap.size + 1 + 1, i, none⟩ = false := fun j => (f1.frozen (p := ⟨w.heap.size + 1 + 1, j, none⟩) (show w.heap.size + 1 + 1 < W1.heap.size by omega)).trans (F1 j)
  have GG1 : ∀ i, w1.frozen? ⟨w.heap.size + 1, i, none⟩ = false := fun j => (f1.frozen (p := ⟨w.heap.size + 1, j, none⟩) (show w.heap.size + 1 < W1.heap.size by omega)).trans (G1 j)
  have yy1n := y1n.keep f1 (by omega)
  clear q10 r10 q11 r11 F1 G1 s1a y1n
  have lt1 : w.heap.size + 1 + 1 < w1.heap.size := by omega
  have lu1 : w.heap.size + 1 < w1.heap.size := by omega
  have lv1 : w.heap.size < w1.heap.size := by omega
  go_wp2_with fail
  refine bodyPost_ret (v := .agg #[.slice cn d.next.length mn, .slice ca d.acc.length ma]) (by simp [results, Try.results12, go_sem, qq10, rr10, qq11, rr11]) rfl ⟨_, _, rfl, ?_, ?_⟩
  · (repeat (with_reducible first | exact bR _ _ | assumption | refine bD ?_ | refine bN ?_ _ | refine bA ?_ _ | refine bS ?_ _))
  · refine ⟨w.heap.size, w0.heap.size, w0.heap.size, w1.heap.size, Nat.le_refl _, by (try simp only [World.setCell]); (try simp); omega, by omega, by (try simp only [World.setCell]); (try simp), fun _ => .inl (Nat.le_refl _), ?_, ?_⟩
    · exact (yy1n.agree (by (repeat (first | with_reducible exact Same.refl _ _ _ | with_reducible refine Same.set ?_ (by omega))))).mono (by omega) (by first | omega | simp [World.setCell])
    · exact (yy1a.agree (by (repeat (first | with_reducible exact Same.refl _ _ _ | with_reducible refine Same.set ?_ (by omega))))).mono (by omega) (by first | omega | simp [World.setCell])

theorem szBoolS_ok (o l h v) (ts : List Bool) (n : Int) (w : World) (t : Bools o l h w v ts) (n1 : n ≤ 1048576) (hn : (ts.length : Int) ≤ n) :
    Calls Try.prog 37 #[v, .int .i64 n] w fun e w' => e = .returned (.int .i64 (n - ts.length)) ∧ Below w.heap.size w w' := by
  have := szBoolS_left o l h v ts n w t (by omega) n1
  rwa [left_ok (by omega)] at this
theorem szBoolS_no (o l h v) (ts : List Bool) (n : Int) (w : World) (t : Bools o l h w v ts) (n0 : 0 ≤ n) (n1 : n ≤ 1048576) (hn : n < (ts.length : Int)) :
    Calls Try.prog 37 #[v, .int .i64 n] w fun e w' => e = .returned (.int .i64 (-1)) ∧ Below w.heap.size w w' := by
  have := szBoolS_left o l h v ts n w t n0 n1
  rwa [left_no hn] at this

set_option maxRecDepth 100000 in
set_option maxHeartbeats 1600000 in
theorem szDfa_ok (o l h vn va) (d : DfaC) (n : Int) (w : World) (t : DfaR o l h w vn va d) (hw : h ≤ w.heap.size) (n0 : 0 ≤ n) (n1 : n ≤ 1048576) (hn : (szD d : Int) ≤ n) :
    Calls Try.prog 10 #[.agg #[vn, va], .int .i64 n] w fun e w' => e = .returned (.int .i64 (n - (szD d : Nat))) ∧ Below w.heap.size w w' := by
  obtain ⟨tn, ta⟩ := t.parts
  obtain ⟨an, kn, rfl, ln, bn⟩ := tn.shape
  obtain ⟨aa, ka, rfl, la, ba⟩ := ta.shape
  have q0 : (szIs d.next : Int) ≤ n := by unfold szD at hn; omega
  have q1 : (d.acc.length : Int) ≤ n - (szIs d.next : Nat) := by unfold szD at hn; omega
  rw [show n - (szD d : Nat) = n - (szIs d.next : Nat) - d.acc.length from by unfold szD; omega]
  clear hn
  go_enter Try.func10, Try.ntmps10
  go_wp2_with fail
  refine name_call fun w1 hw1 => ?_
  have b1 : Below w.heap.size w w1 := by rw [hw1]; (repeat (with_reducible first | exact bR _ _ | assumption | refine bD ?_ | refine bN ?_ _ | refine bA ?_ _ | refine bS ?_ _))
  have z1 : w.heap.size + 1 ≤ w1.heap.size := by rw [hw1]; simp
  have e1 : Below w.heap.size w w1 := by rw [hw1]; (repeat (with_reducible first | exact bR _ _ | assumption | refine bD ?_ | refine bN ?_ _ | refine bA ?_ _ | refine bS ?_ _))
  have cB11 : w1.cell? ⟨w.heap.size, 1, none⟩ = some (.slice aa d.acc.length ka) := by rw [hw1]; first | (simp; done) | go_simp
  have tN1 := tn.keep e1 (by omega)
  have tA1 := ta.keep e1 (by omega)
  clear hw1
  refine (szIntSS_ok o l h _ d.next n _ tN1 (by omega) n1 (by omega)).mono ?_; rintro e w2 ⟨rfl, f2⟩
  have b2 := b1.trans (f2.mono (by omega))
  have z2 := f2.size
  have cB12 := ck f2 cB11
  have tN2 := tN1.keep f2 (by omega)
  have tA2 := tA1.keep f2 (by omega)
  clear cB11 tN1 tA1
  have lcB12 : w.heap.size < w2.heap.size := blt cB12
  go_wp2_with fail
  refine name_call fun w3 hw3 => ?_
  have b3 : Below w.heap.size w w3 := by rw [hw3]; (repeat (with_reducible first | exact bR _ _ | assumption | refine bD ?_ | refine bN ?_ _ | refine bA ?_ _ | refine bS ?_ _))
  have z3 : w2.heap.size + 0 ≤ w3.heap.size := by rw [hw3]; simp
  have e3 : Below w2.heap.size w2 w3 := by rw [hw3]; (repeat (with_reducible first | exact bR _ _ | assumption | refine bD ?_ | refine bN ?_ _ | refine bA ?_ _ | refine bS ?_ _))
  have cB13 := ck e3 cB12
  have tN3 := tN2.keep e3 (by omega)
  have tA3 := tA2.keep e3 (by omega)
  clear hw3 lcB12 cB12 tN2 tA2
  refine (szBoolS_ok o l h _ d.acc _ _ tA3 (by omega) (by omega)).mono ?_; rintro e w4 ⟨rfl, f4⟩
  have b4 := b3.trans (f4.mono (by omega))
  have z4 := f4.size
  have cB14 := ck f4 cB13
  have tN4 := tN3.keep f4 (by omega)
  have tA4 := tA3.keep f4 (by omega)
  clear cB13 tN3 tA3
  go_wp2_with fail
  go_ret
  exact ⟨rfl, b4⟩

set_option maxRecDepth 100000 in
set_option maxHeartbeats 1600000 in
theorem szDfa_no (o l h vn va) (d : DfaC) (n : Int) (w : World) (t : DfaR o l h w vn va d) (hw : h ≤ w.heap.size) (n0 : 0 ≤ n) (n1 : n ≤ 1048576) (hn : n < (szD d : Nat)) :
    Calls Try.prog 10 #[.agg #[vn, va], .int .i64 n] w fun e w' => e = .returned (.int .i64 (-1)) ∧ Below w.heap.size w w' := by
  obtain ⟨tn, ta⟩ := t.parts
  obtain ⟨an, kn, rfl, ln, bn⟩ := tn.shape
  obtain ⟨aa, ka, rfl, la, ba⟩ := ta.shape
  by_cases hA : n < (szIs d.next : Nat)
  case' pos =>
    go_enter Try.func10, Try.ntmps10
    go_wp2_with fail
    refine name_call fun w1 hw1 => ?_
    have b1 : Below w.heap.size w w1 := by rw [hw1]; (repeat (with_reducible first | exact bR _ _ | assumption | refine bD ?_ | refine bN ?_ _ | refine bA ?_ _ | refine bS ?_ _))
    have z1 : w.heap.size + 1 ≤ w1.heap.size := by rw [hw1]; simp
    have e1 : Below w.heap.size w w1 := by rw [hw1]; (repeat (with_reducible first | exact bR _ _ | assumption | refine bD ?_ | refine bN ?_ _ | refine bA ?_ _ | refine bS ?_ _))
    have cB11 : w1.cell? ⟨w.heap.size, 1, none⟩ = some (.slice aa d.acc.length ka) := by rw [hw1]; first | (simp; done) | go_simp
    have tN1 := tn.keep e1 (by omega)
    have tA1 := ta.keep e1 (by omega)
    clear hw1
    refine (szIntSS_no o l h _ d.next n _ tN1 (by omega) n0 n1 (by omega)).mono ?_; rintro e w2 ⟨rfl, f2⟩
    have b2 := b1.trans (f2.mono (by omega))
    have z2 := f2.size
    have cB12 := ck f2 cB11
    have tN2 := tN1.keep f2 (by omega)
    have tA2 := tA1.keep f2 (by omega)
    clear cB11 tN1 tA1
    go_wp2_with fail
    go_ret
    exact ⟨rfl, b2⟩
  have q1 : n - (szIs d.next : Nat) < (d.acc.length : Int) := by unfold szD at hn; omega
  have q2 : 0 ≤ n - (szIs d.next : Nat) := by omega
  have q3 : (szIs d.next : Int) ≤ n := by omega
  clear hn hA
  go_enter Try.func10, Try.ntmps10
  go_wp2_with fail
  refine name_call fun w1 hw1 => ?_
  have b1 : Below w.heap.size w w1 := by rw [hw1]; (repeat (with_reducible first | exact bR _ _ | assumption | refine bD ?_ | refine bN ?_ _ | refine bA ?_ _ | refine bS ?_ _))
  have z1 : w.heap.size + 1 ≤ w1.heap.size := by rw [hw1]; simp
  have e1 : Below w.heap.size w w1 := by rw [hw1]; (repeat (with_reducible first | exact bR _ _ | assumption | refine bD ?_ | refine bN ?_ _ | refine bA ?_ _ | refine bS ?_ _))
  have cB11 : w1.cell? ⟨w.heap.size, 1, none⟩ = some (.slice aa d.acc.length ka) := by rw [hw1]; first | (simp; done) | go_simp
  have tN1 := tn.keep e1 (by omega)
  have tA1 := ta.keep e1 (by omega)
  clear hw1
  refine (szIntSS_ok o l h _ d.next n _ tN1 (by omega) n1 (by omega)).mono ?_; rintro e w2 ⟨rfl, f2⟩
  have b2 := b1.trans (f2.mono (by omega))
  have z2 := f2.size
  have cB12 := ck f2 cB11
  have tN2 := tN1.keep f2 (by omega)
  have tA2 := tA1.keep f2 (by omega)
  clear cB11 tN1 tA1
  have lcB12 : w.heap.size < w2.heap.size := blt cB12
  go_wp2_with fail
  refine name_call fun w3 hw3 => ?_
  have b3 : Below w.heap.size w w3 := by rw [hw3]; (repeat (with_reducible first | exact bR _ _ | assumption | refine bD ?_ | refine bN ?_ _ | refine bA ?_ _ | refine bS ?_ _))
  have z3 : w2.heap.size + 0 ≤ w3.heap.size := by rw [hw3]; simp
  have e3 : Below w2.heap.size w2 w3 := by rw [hw3]; (repeat (with_reducible first | exact bR _ _ | assumption | refine bD ?_ | refine bN ?_ _ | refine bA ?_ _ | refine bS ?_ _))
  have cB13 := ck e3 cB12
  have tN3 := tN2.keep e3 (by omega)
  have tA3 := tA2.keep e3 (by omega)
  clear hw3 lcB12 cB12 tN2 tA2
  refine (szBoolS_no o l h _ d.acc _ _ tA3 (by omega) (by omega) (by omega)).mono ?_; rintro e w4 ⟨rfl, f4⟩
  have b4 := b3.trans (f4.mono (by omega))
  have z4 := f4.size
  have cB14 := ck f4 cB13
  have tN4 := tN3.keep f4 (by omega)
  have tA4 := tA3.keep f4 (by omega)
  clear cB13 tN3 tA3
  go_wp2_with fail
  go_ret
  exact ⟨rfl, b4⟩

set_option maxRecDepth 100000 in
set_option maxHeartbeats 1600000 in
theorem eqDfa_same (o1 l1 h1 vn va o2 l2 h2 un ua) (d : DfaC) (w : World) (t : DfaR o1 l1 h1 w vn va d) (s : DfaR o2 l2 h2 w un ua d) (hw1 : h1 ≤ w.heap.size) (hw2 : h2 ≤ w.heap.size) :
    Calls Try.prog 14 #[.agg #[vn, va], .agg #[un, ua]] w fun e w' => e = .returned (.bool true) ∧ Below w.heap.size w w' := by
  obtain ⟨tn, ta⟩ := t.parts
  obtain ⟨sn, sa⟩ := s.parts
  obtain ⟨an, kn, rfl, ln, bn⟩ := tn.shape
  obtain ⟨aa, ka, rfl, la, ba⟩ := ta.shape
  obtain ⟨cn, mn, rfl, lcn, bcn⟩ := sn.shape
  obtain ⟨ca, ma, rfl, lca, bca⟩ := sa.shape
  go_enter Try.func14, Try.ntmps14
  go_wp2_with fail
  refine name_call fun w1 hw1 => ?_
  have b1 : Below w.heap.size w w1 := by rw [hw1]; (repeat (with_reducible first | exact bR _ _ | assumption | refine bD ?_ | refine bN ?_ _ | refine bA ?_ _ | refine bS ?_ _))
  have z1 : w.heap.size + 2 ≤ w1.heap.size := by rw [hw1]; simp
  have e1 : Below w.heap.size w w1 := by rw [hw1]; (repeat (with_reducible first | exact bR _ _ | assumption | refine bD ?_ | refine bN ?_ _ | refine bA ?_ _ | refine bS ?_ _))
  have cP11 : w1.cell? ⟨w.heap.size, 1, none⟩ = some (.slice aa d.acc.length ka) := by rw [hw1]; first | (simp; done) | go_simp
  have cQ11 : w1.cell? ⟨w.heap.size + 1, 1, none⟩ = some (.slice ca d.acc.length ma) := by rw [hw1]; first | (simp; done) | go_simp
  have tN11 := tn.keep e1 (by omega)
  have tA11 := ta.keep e1 (by omega)
  have tN21 := sn.keep e1 (by omega)
  have tA21 := sa.keep e1 (by omega)
  clear hw1
  refine (eqIntSS_same o1 l1 h1 _ o2 l2 h2 _ d.next _ tN11 tN21 (by omega) (by omega)).mono ?_; rintro e w2 ⟨rfl, f2⟩
  have b2 := b1.trans (f2.mono (by omega))
  have z2 := f2.size
  have cP12 := ck f2 cP11
  have cQ12 := ck f2 cQ11
  have tN12 := tN11.keep f2 (by omega)
  have tA12 := tA11.keep f2 (by omega)
  have tN22 := tN21.keep f2 (by omega)
  have tA22 := tA21.keep f2 (by omega)
  clear cP11 cQ11 tN11 tA11 tN21 tA21
  have lcP12 : w.heap.size < w2.heap.size := blt cP12
  have lcQ12 : w.heap.size + 1 < w2.heap.size := blt cQ12
  go_wp2_with fail
  refine name_call fun w3 hw3 => ?_
  have b3 : Below w.heap.size w w3 := by rw [hw3]; (repeat (with_reducible first | exact bR _ _ | assumption | refine bD ?_ | refine bN ?_ _ | refine bA ?_ _ | refine bS ?_ _))
  have z3 : w2.heap.size + 0 ≤ w3.heap.size := by rw [hw3]; simp
  have e3 : Below w2.heap.size w2 w3 := by rw [hw3]; (repeat (with_reducible first | exact bR _ _ | assumption | refine bD ?_ | refine bN ?_ _ | refine bA ?_ _ | refine bS ?_ _))
  have cP13 := ck e3 cP12
  have cQ13 := ck e3 cQ12
  have tN13 := tN12.keep e3 (by omega)
  have tA13 := tA12.keep e3 (by omega)
  have tN23 := tN22.keep e3 (by omega)
  have tA23 := tA22.keep e3 (by omega)
  clear hw3 lcP12 lcQ12 cP12 cQ12 tN12 tA12 tN22 tA22
  refine (eqBoolS_same o1 l1 h1 _ o2 l2 h2 _ d.acc _ tA13 tA23 (by omega) (by omega)).mono ?_; rintro e w4 ⟨rfl, f4⟩
  have b4 := b3.trans (f4.mono (by omega))
  have z4 := f4.size
  have cP14 := ck f4 cP13
  have cQ14 := ck f4 cQ13
  have tN14 := tN13.keep f4 (by omega)
  have tA14 := tA13.keep f4 (by omega)
  have tN24 := tN23.keep f4 (by omega)
  have tA24 := tA23.keep f4 (by omega)
  clear cP13 cQ13 tN13 tA13 tN23 tA23
  go_wp2_with fail
  go_ret
  exact ⟨rfl, b4⟩

theorem heldNums_int (own : Bool) (l h : Nat) (v : Value) (n : Nat) (q : Int) (w : World) (h1 : Nums own l h w v (marksN q.toNat n)) (hw : h ≤ w.heap.size) (hlen : n ≤ 4194304) (q0 : 0 ≤ q) (q1 : q ≤ 16777216) :
    Calls Try.prog 22 #[v, .int .i64 q] w fun e w' => e = .returned (.int .i64 (q + (n : Int))) ∧ Below w.heap.size w w' := by
  have := heldNums_any own l h v n q.toNat w h1 hw hlen (by omega)
  rw [show ((q.toNat : Nat) : Int) = q from by omega, show ((q.toNat + n : Nat) : Int) = q + (n : Int) from by omega] at this
  exact this
set_option maxRecDepth 100000 in
set_option maxHeartbeats 1600000 in
theorem heldIntSS_any (o l h v) (xs : List (List Int)) (m : Nat) (w : World) (t : IntSS o l h w v (mkA gI fI m xs)) (hw : h ≤ w.heap.size) (hm : m + tot fI xs ≤ 4194304) :
    Calls Try.prog 50 #[v, .int .i64 m] w fun e w' => e = .returned (.int .i64 ((m + tot fI xs : Nat) : Int)) ∧ Below w.heap.size w w' := by
  obtain ⟨a, ka, rfl, la, ba⟩ := t.shape
  have hl := mkA_length gI fI xs m
  rw [hl] at t la ⊢
  have HL := Lib.hid hl
  clear hl
  go_enter Try.func50, Try.ntmps50
  go_wp2_with fail
  go_loopw [1, 5] (fun n i wr => ∃ (k : Nat) (q : Int), k ≤ xs.length ∧ i = .int .i64 k ∧ n = .int .i64 q ∧ q = ((m + tot fI (xs.take k) : Nat) : Int) ∧ Below w.heap.size w wr) (fun _ i _ => xs.length - (intOf i).toNat)
  case atStart => exact ⟨0, m, Nat.zero_le _, rfl, rfl, by simp [tot], Below.refl _ _⟩
  case round =>
    obtain ⟨k, q, hk, rfl, rfl, hq, be⟩ := hrel
    have HQ := Lib.hid hq
    have hle := tot_le fI xs (k + 1)
    have zb := be.size
    clear hq
    by_cases hlt : k < xs.length
    · have hst := tot_step (f := fI) hlt
      obtain ⟨b, off, u, rfl, p1, p2, c0, tu⟩ := (t.keep be hw).at (j := k) (by rw [HL.out]; exact hlt)
      rw [mkA_get _ _ _ _ _ hlt] at tu
      have q0 : 0 ≤ q := by have := HQ.out; omega
      have e2 : fI xs[k] = xs[k].length := rfl
      have q1 : q + (xs[k].length : Int) ≤ 4194304 := by have := HQ.out; omega
      have Q2 : Hid (q + (xs[k].length : Int) = ((m + tot fI (xs.take (k + 1)) : Nat) : Int)) := Lib.hid (by have := HQ.out; omega)
      have tu' : Nums o l h wr u (marksN q.toNat xs[k].length) := by rw [show q.toNat = m + tot fI (xs.take k) from by have := HQ.out; omega]; exact tu
      clear hst hle e2 tu
      obtain ⟨x, kx, rfl, lx, bx⟩ := tu'.shape
      rw [marksN_length] at lx tu'
      rw [marksN_length] at c0
      go_wp2_with fail
      refine (heldNums_int o l h _ xs[k].length q _ tu' (by omega) (by omega) q0 (by omega)).mono ?_; rintro e w2 ⟨rfl, f2⟩
      clear c0 tu'
      go_wp2_with fail
      go_roundw
      case rel => exact ⟨k + 1, _, by omega, by go_num, rfl, Q2.out, be.trans (f2.mono zb)⟩
      case measure => simp [intOf]; omega
    · obtain rfl : k = xs.length := by omega
      have E : Hid (q = ((m + tot fI xs : Nat) : Int)) := Lib.hid (by have := HQ.out; rwa [List.take_length] at this)
      clear HQ
      go_wp2_with fail
      go_ret
      exact ⟨by rw [E.out]; rfl, be⟩

def totD (d : DfaC) : Nat := tot fI d.next + d.acc.length
def mkD (m : Nat) (d : DfaC) : DfaC := ⟨mkA gI fI m d.next, marksT (m + tot fI d.next) d.acc.length⟩

set_option maxRecDepth 100000 in
set_option maxHeartbeats 1600000 in
theorem markDfa_any (l h vn va) (d : DfaC) (m : Nat) (w : World) (t : DfaR true l h w vn va d) (hw : h ≤ w.heap.size) (hm : m + totD d ≤ 4194304) :
    Calls Try.prog 20 #[.agg #[vn, va], .int .i64 m] w fun e w' => e = .returned (.int .i64 ((m + totD d : Nat) : Int)) ∧ Only l h w w' ∧ DfaR true l h w' vn va (mkD m d) := by
  obtain ⟨an, kn, aa, ka, rfl, rfl, ln, bn, la, ba⟩ := t.shape
  obtain ⟨l1, h1, l2, h2, p1, p2, p3, p4, di, t1, t2⟩ := t
  have dj := di rfl
  have e1 : m + totD d = m + tot fI d.next + d.acc.length := by unfold totD; omega
  rw [e1] at hm ⊢
  obtain ⟨m1, hm1⟩ : ∃ q : Nat, q = m + tot fI d.next := ⟨_, rfl⟩
  have MK : Hid (mkD m d = ⟨mkA gI fI m d.next, marksT m1 d.acc.length⟩) := Lib.hid (by unfold mkD; rw [hm1])
  have N1 := markIntSS_any l1 h1 (.slice an d.next.length kn) d.next m
  rw [← hm1] at N1 hm ⊢
  have H1 := Lib.hid N1
  have C1 : m1 ≤ 4194304 := by omega
  clear N1 hm1 e1 di
  go_enter Try.func20, Try.ntmps20
  go_wp2_with fail
  refine name_call fun w1 hw1 => ?_
  have o1 : Only l h w w1 := by rw [hw1]; (repeat (first | with_reducible exact Only.refl _ _ _ | with_reducible assumption | with_reducible refine Only.drew ?_ | with_reducible refine odrewN ?_ _ | with_reducible refine Only.alloc ?_ _ | ((with_reducible refine oset ?_ ?_ ?_ _); (focus (first | with_reducible exact Nat.le_refl _ | (simp; done) | omega | (simp; omega) | exact Nat.le_refl _)); (focus (first | with_reducible exact Nat.le_refl _ | (simp; done) | omega | (simp; omega) | exact Nat.le_refl _)))))
  have b1 : Below w.heap.size w w1 := by rw [hw1]; (repeat (with_reducible first | exact bR _ _ | assumption | refine bD ?_ | refine bN ?_ _ | refine bA ?_ _ | refine bS ?_ _))
  have z1 : w.heap.size + 1 ≤ w1.heap.size := by rw [hw1]; simp
  have cA : w1.cell? ⟨w.heap.size, 1, none⟩ = some (.slice aa d.acc.length ka) := by rw [hw1]; first | (simp; done) | go_simp
  have tN1 := t1.keep b1 (by omega)
  have tA1 := t2.keep b1 (by omega)
  clear hw1 t1 t2
  refine (H1.out w1 tN1 (by omega) C1).mono ?_; rintro e w2 ⟨rfl, on2, rN⟩
  have z2 := on2.size
  have o2 := o1.trans (on2.wide p1 p2)
  have cA2 := (on2.cell (b := w.heap.size) (by omega) (by omega) 1).trans cA
  have tA2 := tA1.only on2 (by omega) (by omega)
  have lt2 : w.heap.size < w2.heap.size := by omega
  clear cA tN1 tA1
  go_wp2_with fail
  refine (markBoolS_any l2 h2 _ d.acc m1 _ tA2 (by omega) (by omega) (by omega)).mono ?_; rintro e w3 ⟨rfl, on3, rA⟩
  have z3 := on3.size
  have o3 := o2.trans (on3.wide p3 p4)
  have rN3 := rN.only on3 (by omega) (by omega)
  go_wp2_with fail
  go_ret
  refine ⟨rfl, o3, ?_⟩
  rw [MK.out]
  refine ⟨l1, h1, l2, h2, p1, p2, p3, p4, fun _ => dj, ?_, ?_⟩
  · exact rN3
  · exact rA

set_option maxRecDepth 100000 in
set_option maxHeartbeats 1600000 in
theorem heldDfa_any (o l h vn va) (d : DfaC) (m : Nat) (w : World) (t : DfaR o l h w vn va (mkD m d)) (hw : h ≤ w.heap.size) (hm : m + totD d ≤ 4194304) :
    Calls Try.prog 31 #[.agg #[vn, va], .int .i64 m] w fun e w' => e = .returned (.int .i64 ((m + totD d : Nat) : Int)) ∧ Below w.heap.size w w' := by
  obtain ⟨tn, ta⟩ := t.parts
  have e1 : m + totD d = m + tot fI d.next + d.acc.length := by unfold totD; omega
  rw [e1] at hm ⊢
  have hl := mkA_length gI fI d.next m
  obtain ⟨an, kn, rfl, ln, bn⟩ := tn.shape
  obtain ⟨aa, ka, rfl, la, ba⟩ := ta.shape
  simp only [mkD] at ln la tn ta ⊢
  rw [marksT_length] at la ta ⊢
  rw [hl] at ln tn ⊢
  obtain ⟨m1, hm1⟩ : ∃ q : Nat, q = m + tot fI d.next := ⟨_, rfl⟩
  have N1 := heldIntSS_any o l h (.slice an d.next.length kn) d.next m
  rw [← hm1] at N1 hm ta ⊢
  have H1 := Lib.hid N1
  have C1 : m1 ≤ 4194304 := by omega
  clear N1 hm1 e1 hl
  go_enter Try.func31, Try.ntmps31
  go_wp2_with fail
  refine name_call fun w1 hw1 => ?_
  have b1 : Below w.heap.size w w1 := by rw [hw1]; (repeat (with_reducible first | exact bR _ _ | assumption | refine bD ?_ | refine bN ?_ _ | refine bA ?_ _ | refine bS ?_ _))
  have z1 : w.heap.size + 1 ≤ w1.heap.size := by rw [hw1]; simp
  have e1 : Below w.heap.size w w1 := by rw [hw1]; (repeat (with_reducible first | exact bR _ _ | assumption | refine bD ?_ | refine bN ?_ _ | refine bA ?_ _ | refine bS ?_ _))
  have cB11 : w1.cell? ⟨w.heap.size, 1, none⟩ = some (.slice aa d.acc.length ka) := by rw [hw1]; first | (simp; done) | go_simp
  have tN1 := tn.keep e1 (by omega)
  have tA1 := ta.keep e1 (by omega)
  clear hw1
  refine (H1.out _ tN1 (by omega) C1).mono ?_; rintro e w2 ⟨rfl, f2⟩
  have b2 := b1.trans (f2.mono (by omega))
  have z2 := f2.size
  have cB12 := ck f2 cB11
  have tN2 := tN1.keep f2 (by omega)
  have tA2 := tA1.keep f2 (by omega)
  clear cB11 tN1 tA1
  have lcB12 : w.heap.size < w2.heap.size := blt cB12
  go_wp2_with fail
  refine name_call fun w3 hw3 => ?_
  have b3 : Below w.heap.size w w3 := by rw [hw3]; (repeat (with_reducible first | exact bR _ _ | assumption | refine bD ?_ | refine bN ?_ _ | refine bA ?_ _ | refine bS ?_ _))
  have z3 : w2.heap.size + 0 ≤ w3.heap.size := by rw [hw3]; simp
  have e3 : Below w2.heap.size w2 w3 := by rw [hw3]; (repeat (with_reducible first | exact bR _ _ | assumption | refine bD ?_ | refine bN ?_ _ | refine bA ?_ _ | refine bS ?_ _))
  have cB13 := ck e3 cB12
  have tN3 := tN2.keep e3 (by omega)
  have tA3 := tA2.keep e3 (by omega)
  clear hw3 lcB12 cB12 tN2 tA2
  refine (heldBoolS_any o l h _ d.acc.length m1 _ tA3 (by omega) (by omega) (by omega)).mono ?_; rintro e w4 ⟨rfl, f4⟩
  have b4 := b3.trans (f4.mono (by omega))
  have z4 := f4.size
  have cB14 := ck f4 cB13
  have tN4 := tN3.keep f4 (by omega)
  have tA4 := tA3.keep f4 (by omega)
  clear cB13 tN3 tA3
  go_wp2_with fail
  go_ret
  exact ⟨rfl, b4⟩

end Go.Proofs.Ytcinpoeapbgnhaa.L
