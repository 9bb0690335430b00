/- Valid linear combinations: LinOk of the program and of its model; Const, VarOf. -/
import Derived.Test.YteekpdlkdpkegaaTerms
import Derived.Test.YteekpdlkdpkegaaField
import Derived.IntWalk
namespace Go.Proofs.Yteekpdlkdpkegaa.L
open Go.RowKit Go.Proofs.Yteekpdlkdpkegaa.S
set_option linter.unusedVariables false
set_option linter.unusedSimpArgs false

/-- The terms are ascending behind last, and within their bounds. -/
def okFrom : Int → List T → Bool
  | _, [] => true
  | last, t :: ts => decide (last < t.1 ∧ t.1 < 3000 ∧ 0 < t.2 ∧ t.2 < 2147483647) && okFrom t.1 ts
def linOk (ts : List T) : Bool := okFrom (-1) ts

theorem okFrom_good {last x y : Int} {ts : List T} (h : last < x ∧ x < 3000 ∧ 0 < y ∧ y < 2147483647) : okFrom last ((x, y) :: ts) = okFrom x ts := by simp [okFrom, h]
theorem okFrom_bad {last x y : Int} {ts : List T} (h : ¬ (last < x ∧ x < 3000 ∧ 0 < y ∧ y < 2147483647)) : okFrom last ((x, y) :: ts) = false := by
  simp only [okFrom, decide_eq_false h, Bool.false_and]
theorem drop_step {ts : List T} {k : Nat} {t : T} (h : ts[k]? = some t) : ts.drop k = t :: ts.drop (k + 1) := by
  have hk := (List.getElem?_eq_some_iff.1 h).1
  rw [List.drop_eq_getElem_cons hk]
  congr 1
  exact (List.getElem?_eq_some_iff.1 h).2

theorem fok_yes (n : Int) (w : World) (h0 : 0 ≤ n) (h1 : n < 2147483647) : Calls Try.prog 161 #[.int .i64 n] w fun e w' => e = .returned (.bool true) ∧ w = w' :=
  (fok_impl n w).mono fun e w' ⟨he, hw⟩ => ⟨by rw [he]; exact S.ret_bool (by simp; omega), hw⟩
theorem fok_no (n : Int) (w : World) (h : n < 0 ∨ 2147483647 ≤ n) : Calls Try.prog 161 #[.int .i64 n] w fun e w' => e = .returned (.bool false) ∧ w = w' :=
  (fok_impl n w).mono fun e w' ⟨he, hw⟩ => ⟨by rw [he]; exact S.ret_bool (by simp; omega), hw⟩

set_option maxRecDepth 100000 in
set_option maxHeartbeats 3200000 in
theorem linOk_impl (own : Bool) (l h : Nat) (v : Value) (ts : List T) (w : World) (h1 : Terms own l h w v ts) (hw : h ≤ w.heap.size) :
    Calls Try.prog 135 #[.agg #[v]] w fun e w' => e = .returned (.bool (linOk ts)) ∧ Below w.heap.size w w' := by
  obtain ⟨a, ca, rfl, la, ba⟩ := h1.shape
  go_enter Try.func135, Try.ntmps135
  go_wp2_with fail
  go_loopw [3, 9] (fun p i wr => ∃ (k : Nat) (last : Int), k ≤ ts.length ∧ i = .int .i64 k ∧ p = .int .i64 last ∧ -1 ≤ last ∧ last < 3000 ∧ linOk ts = okFrom last (ts.drop k) ∧ Below w.heap.size w wr) (fun _ i _ => ts.length - (intOf i).toNat)
  case atStart => exact ⟨0, -1, Nat.zero_le _, rfl, rfl, by omega, by omega, rfl, by (repeat (first | with_reducible exact Below.refl _ _ | with_reducible assumption | with_reducible refine Below.drew ?_ | with_reducible refine bdrewN ?_ _ | ((with_reducible refine balloc ?_ ?_ _); (focus (first | with_reducible exact Nat.le_refl _ | (simp; done) | omega | (simp; omega) | exact Nat.le_refl _))) | ((with_reducible refine bset ?_ ?_ _); (focus (first | with_reducible exact Nat.le_refl _ | (simp; done) | omega | (simp; omega) | exact Nat.le_refl _)))))⟩
  case round =>
    obtain ⟨k, last, hk, rfl, rfl, p0, p1, hq, be⟩ := hrel
    have hz := be.size
    by_cases hlt : k < ts.length
    · obtain ⟨b, off, x, y, rfl, l1, m1, c1, d1, e1, fx, fy⟩ := (h1.keep be hw).at hlt
      rw [drop_step e1] at hq
      by_cases g : last < x ∧ x < 3000 ∧ 0 < y ∧ y < 2147483647
      · rw [okFrom_good g] at hq
        have HQ := Lib.hid hq
        clear hq e1
        obtain ⟨g1, g2, g3, g4⟩ := g
        have by0 : (y == 0) = false := by simp; omega
        go_wp2_with (go_at_call 161; refine (fok_yes y _ (by omega) g4).mono ?_; rintro e w' ⟨rfl, rfl⟩)
        go_roundw
        case rel => exact ⟨k + 1, x, by omega, by go_num, rfl, by omega, g2, HQ.out, by (repeat (first | with_reducible exact Below.refl _ _ | with_reducible assumption | with_reducible refine Below.drew ?_ | with_reducible refine bdrewN ?_ _ | ((with_reducible refine balloc ?_ ?_ _); (focus (first | with_reducible exact Nat.le_refl _ | (simp; done) | omega | (simp; omega) | exact Nat.le_refl _))) | ((with_reducible refine bset ?_ ?_ _); (focus (first | with_reducible exact Nat.le_refl _ | (simp; done) | omega | (simp; omega) | exact Nat.le_refl _)))))⟩
        case measure => simp [intOf]; omega
      · rw [okFrom_bad g] at hq
        have HQ := Lib.hid hq
        clear hq e1
        have cases : x ≤ last ∨ (last < x ∧ 3000 ≤ x) ∨ (last < x ∧ x < 3000 ∧ y = 0) ∨ (last < x ∧ x < 3000 ∧ (y < 0 ∨ 2147483647 ≤ y)) := by omega
        clear g
        rcases cases with g1 | ⟨g1, g2⟩ | ⟨g1, g2, g3⟩ | ⟨g1, g2, g3⟩
        · go_wp2_with fail
          go_ret
          exact ⟨ret_bool HQ.out.symm, by (repeat (first | with_reducible exact Below.refl _ _ | with_reducible assumption | with_reducible refine Below.drew ?_ | with_reducible refine bdrewN ?_ _ | ((with_reducible refine balloc ?_ ?_ _); (focus (first | with_reducible exact Nat.le_refl _ | (simp; done) | omega | (simp; omega) | exact Nat.le_refl _))) | ((with_reducible refine bset ?_ ?_ _); (focus (first | with_reducible exact Nat.le_refl _ | (simp; done) | omega | (simp; omega) | exact Nat.le_refl _)))))⟩
        · go_wp2_with fail
          go_ret
          exact ⟨ret_bool HQ.out.symm, by (repeat (first | with_reducible exact Below.refl _ _ | with_reducible assumption | with_reducible refine Below.drew ?_ | with_reducible refine bdrewN ?_ _ | ((with_reducible refine balloc ?_ ?_ _); (focus (first | with_reducible exact Nat.le_refl _ | (simp; done) | omega | (simp; omega) | exact Nat.le_refl _))) | ((with_reducible refine bset ?_ ?_ _); (focus (first | with_reducible exact Nat.le_refl _ | (simp; done) | omega | (simp; omega) | exact Nat.le_refl _)))))⟩
        · subst g3
          go_wp2_with fail
          go_ret
          exact ⟨ret_bool HQ.out.symm, by (repeat (first | with_reducible exact Below.refl _ _ | with_reducible assumption | with_reducible refine Below.drew ?_ | with_reducible refine bdrewN ?_ _ | ((with_reducible refine balloc ?_ ?_ _); (focus (first | with_reducible exact Nat.le_refl _ | (simp; done) | omega | (simp; omega) | exact Nat.le_refl _))) | ((with_reducible refine bset ?_ ?_ _); (focus (first | with_reducible exact Nat.le_refl _ | (simp; done) | omega | (simp; omega) | exact Nat.le_refl _)))))⟩
        · have by0 : (y == 0) = false := by simp; omega
          go_wp2_with (go_at_call 161; refine (fok_no y _ g3).mono ?_; rintro e w' ⟨rfl, rfl⟩)
          go_ret
          exact ⟨ret_bool HQ.out.symm, by (repeat (first | with_reducible exact Below.refl _ _ | with_reducible assumption | with_reducible refine Below.drew ?_ | with_reducible refine bdrewN ?_ _ | ((with_reducible refine balloc ?_ ?_ _); (focus (first | with_reducible exact Nat.le_refl _ | (simp; done) | omega | (simp; omega) | exact Nat.le_refl _))) | ((with_reducible refine bset ?_ ?_ _); (focus (first | with_reducible exact Nat.le_refl _ | (simp; done) | omega | (simp; omega) | exact Nat.le_refl _)))))⟩
    · rw [List.drop_eq_nil_of_le (by omega)] at hq
      have HQ := Lib.hid hq
      clear hq
      go_wp2_with fail
      go_ret
      exact ⟨ret_bool HQ.out.symm, be⟩

/-- The variable of the term before. -/
def Prev (ts : List T) (k : Nat) (last : Int) : Prop := (k = 0 ∧ last = -1) ∨ (0 < k ∧ ∃ y, ts[k - 1]? = some (last, y))

set_option maxRecDepth 100000 in
set_option maxHeartbeats 3200000 in
theorem linOk_spec (own : Bool) (l h : Nat) (v : Value) (ts : List T) (w : World) (h1 : Terms own l h w v ts) (hw : h ≤ w.heap.size) :
    Calls Try.prog 94 #[.agg #[v]] w fun e w' => e = .returned (.bool (linOk ts)) ∧ Below w.heap.size w w' := by
  obtain ⟨a, ca, rfl, la, ba⟩ := h1.shape
  go_enter Try.func94, Try.ntmps94
  go_wp2_with fail
  have cb : (w.alloc (.cells #[.slice a ts.length ca] 39)).cell? ⟨w.heap.size, 0, none⟩ = some (.slice a ts.length ca) := by simp
  go_loopw [3] (fun i wr => ∃ (k : Nat) (last : Int), k ≤ ts.length ∧ i = .int .i64 k ∧ -1 ≤ last ∧ last < 3000 ∧ Prev ts k last ∧ linOk ts = okFrom last (ts.drop k) ∧ Below w.heap.size w wr ∧ w.heap.size < wr.heap.size ∧ wr.cell? ⟨w.heap.size, 0, none⟩ = some (.slice a ts.length ca)) (fun i _ => ts.length - (intOf i).toNat)
  case atStart => exact ⟨0, -1, Nat.zero_le _, rfl, by omega, by omega, .inl ⟨rfl, rfl⟩, rfl, by (repeat (first | with_reducible exact Below.refl _ _ | with_reducible assumption | with_reducible refine Below.drew ?_ | with_reducible refine bdrewN ?_ _ | ((with_reducible refine balloc ?_ ?_ _); (focus (first | with_reducible exact Nat.le_refl _ | (simp; done) | omega | (simp; omega) | exact Nat.le_refl _))) | ((with_reducible refine bset ?_ ?_ _); (focus (first | with_reducible exact Nat.le_refl _ | (simp; done) | omega | (simp; omega) | exact Nat.le_refl _))))), by simp, by simp⟩
  case round =>
    obtain ⟨k, last, hk, rfl, p0, p1, hp, hq, be, hs, hc⟩ := hrel
    by_cases hlt : k < ts.length
    · have hat := (h1.keep be hw).at hlt
      obtain ⟨b, off, x, y, rfl, l1, m1, c1, d1, e1, fx, fy⟩ := hat
      rw [drop_step e1] at hq
      have hpc : (k = 0 ∧ last = -1) ∨ (∃ j : Nat, k = j + 1 ∧ wr.cell? ⟨b, off + j * 2, none⟩ = some (.int .i64 last)) := by
        rcases hp with h0 | ⟨h0, z, hz⟩
        · exact .inl h0
        · obtain ⟨b', off', x', y', e', _, _, c', _, ez, _⟩ := (h1.keep be hw).at (k := k - 1) (by omega)
          simp only [Option.some.injEq, Addr.mk.injEq, and_true] at e'
          obtain ⟨rfl, rfl⟩ := e'
          rw [hz] at ez
          simp only [Option.some.injEq, Prod.mk.injEq] at ez
          obtain ⟨rfl, rfl⟩ := ez
          exact .inr ⟨k - 1, by omega, c'⟩
      have hpr : Prev ts (k + 1) x := .inr ⟨by omega, y, e1⟩
      clear hp
      by_cases g : last < x ∧ x < 3000 ∧ 0 < y ∧ y < 2147483647
      · rw [okFrom_good g] at hq
        have HQ := Lib.hid hq
        clear hq e1
        obtain ⟨g1, g2, g3, g4⟩ := g
        have b1 : decide (x < 0) = false := by simp; omega
        have b2 : decide (x ≥ 3000) = false := by simp; omega
        have b3 : decide (y < 1) = false := by simp; omega
        have b4 : decide (y ≥ 2147483647) = false := by simp; omega
        rcases hpc with ⟨hk0, hl0⟩ | ⟨j, hj, hcp⟩
        · subst hk0
          simp only [Nat.zero_mul, Nat.add_zero] at c1 d1
          clear hl0
          go_wp2_with fail
          go_quiet (fail)
          go_wp2_with fail
          go_roundw
          case rel => exact ⟨1, x, by omega, by go_num, by omega, g2, hpr, HQ.out, by (repeat (first | with_reducible exact Below.refl _ _ | with_reducible assumption | with_reducible refine Below.drew ?_ | with_reducible refine bdrewN ?_ _ | ((with_reducible refine balloc ?_ ?_ _); (focus (first | with_reducible exact Nat.le_refl _ | (simp; done) | omega | (simp; omega) | exact Nat.le_refl _))) | ((with_reducible refine bset ?_ ?_ _); (focus (first | with_reducible exact Nat.le_refl _ | (simp; done) | omega | (simp; omega) | exact Nat.le_refl _))))), by simp; omega, by go_simp⟩
          case measure => simp [intOf]; omega
        · have b5 : decide (last ≥ x) = false := by simp; omega
          have b6 : 0 < k := by omega
          have hbs : b < wr.heap.size := World.block_lt_of_cell? wr _ hcp
          have s1 : IntKind.i64.wrap ((k : Int) - 1) = (j : Int) := by rw [IntWalk.i64_in _ (by omega)]; omega
          have s2 : (j : Int) < (ts.length : Int) := by omega
          have s3 : j < ts.length := by omega
          clear hj
          go_wp2_with fail
          go_quiet (fail)
          go_wp2_with fail
          go_roundw
          case rel => exact ⟨k + 1, x, by omega, by go_num, by omega, g2, hpr, HQ.out, by (repeat (first | with_reducible exact Below.refl _ _ | with_reducible assumption | with_reducible refine Below.drew ?_ | with_reducible refine bdrewN ?_ _ | ((with_reducible refine balloc ?_ ?_ _); (focus (first | with_reducible exact Nat.le_refl _ | (simp; done) | omega | (simp; omega) | exact Nat.le_refl _))) | ((with_reducible refine bset ?_ ?_ _); (focus (first | with_reducible exact Nat.le_refl _ | (simp; done) | omega | (simp; omega) | exact Nat.le_refl _))))), by simp; omega, by go_simp⟩
          case measure => simp [intOf]; omega
      · rw [okFrom_bad g] at hq
        have HQ := Lib.hid hq
        clear hq e1 hpr
        have cs : (x < 0) ∨ (¬ x < 0 ∧ 3000 ≤ x) ∨ (¬ x < 0 ∧ x < 3000 ∧ y < 1) ∨ (¬ x < 0 ∧ x < 3000 ∧ ¬ y < 1 ∧ 2147483647 ≤ y) ∨ (¬ x < 0 ∧ x < 3000 ∧ ¬ y < 1 ∧ y < 2147483647 ∧ x ≤ last) := by omega
        clear g
        rcases cs with b1 | ⟨b1, b2⟩ | ⟨b1, b2, b3⟩ | ⟨b1, b2, b3, b4⟩ | ⟨b1, b2, b3, b4, b5⟩
        · replace b1 : decide (x < 0) = true := by simpa using b1
          clear hpc
          go_wp2_with fail
          go_quiet (fail)
          go_wp2_with fail
          go_ret
          exact ⟨ret_bool HQ.out.symm, by (repeat (first | with_reducible exact Below.refl _ _ | with_reducible assumption | with_reducible refine Below.drew ?_ | with_reducible refine bdrewN ?_ _ | ((with_reducible refine balloc ?_ ?_ _); (focus (first | with_reducible exact Nat.le_refl _ | (simp; done) | omega | (simp; omega) | exact Nat.le_refl _))) | ((with_reducible refine bset ?_ ?_ _); (focus (first | with_reducible exact Nat.le_refl _ | (simp; done) | omega | (simp; omega) | exact Nat.le_refl _)))))⟩
        · replace b1 : decide (x < 0) = false := by simpa using b1
          replace b2 : decide (x ≥ 3000) = true := by simpa using b2
          clear hpc
          go_wp2_with fail
          go_quiet (fail)
          go_wp2_with fail
          go_ret
          exact ⟨ret_bool HQ.out.symm, by (repeat (first | with_reducible exact Below.refl _ _ | with_reducible assumption | with_reducible refine Below.drew ?_ | with_reducible refine bdrewN ?_ _ | ((with_reducible refine balloc ?_ ?_ _); (focus (first | with_reducible exact Nat.le_refl _ | (simp; done) | omega | (simp; omega) | exact Nat.le_refl _))) | ((with_reducible refine bset ?_ ?_ _); (focus (first | with_reducible exact Nat.le_refl _ | (simp; done) | omega | (simp; omega) | exact Nat.le_refl _)))))⟩
        · replace b1 : decide (x < 0) = false := by simpa using b1
          replace b2 : decide (x ≥ 3000) = false := by simp; omega
          replace b3 : decide (y < 1) = true := by simpa using b3
          clear hpc
          go_wp2_with fail
          go_quiet (fail)
          go_wp2_with fail
          go_ret
          exact ⟨ret_bool HQ.out.symm, by (repeat (first | with_reducible exact Below.refl _ _ | with_reducible assumption | with_reducible refine Below.drew ?_ | with_reducible refine bdrewN ?_ _ | ((with_reducible refine balloc ?_ ?_ _); (focus (first | with_reducible exact Nat.le_refl _ | (simp; done) | omega | (simp; omega) | exact Nat.le_refl _))) | ((with_reducible refine bset ?_ ?_ _); (focus (first | with_reducible exact Nat.le_refl _ | (simp; done) | omega | (simp; omega) | exact Nat.le_refl _)))))⟩
        · replace b1 : decide (x < 0) = false := by simpa using b1
          replace b2 : decide (x ≥ 3000) = false := by simp; omega
          replace b3 : decide (y < 1) = false := by simpa using b3
          replace b4 : decide (y ≥ 2147483647) = true := by simpa using b4
          clear hpc
          go_wp2_with fail
          go_quiet (fail)
          go_wp2_with fail
          go_ret
          exact ⟨ret_bool HQ.out.symm, by (repeat (first | with_reducible exact Below.refl _ _ | with_reducible assumption | with_reducible refine Below.drew ?_ | with_reducible refine bdrewN ?_ _ | ((with_reducible refine balloc ?_ ?_ _); (focus (first | with_reducible exact Nat.le_refl _ | (simp; done) | omega | (simp; omega) | exact Nat.le_refl _))) | ((with_reducible refine bset ?_ ?_ _); (focus (first | with_reducible exact Nat.le_refl _ | (simp; done) | omega | (simp; omega) | exact Nat.le_refl _)))))⟩
        · rcases hpc with ⟨hk0, hl0⟩ | ⟨j, hj, hcp⟩
          · omega
          replace b1 : decide (x < 0) = false := by simpa using b1
          replace b2 : decide (x ≥ 3000) = false := by simp; omega
          replace b3 : decide (y < 1) = false := by simpa using b3
          replace b4 : decide (y ≥ 2147483647) = false := by simp; omega
          replace b5 : decide (last ≥ x) = true := by simpa using b5
          have b6 : 0 < k := by omega
          have hbs : b < wr.heap.size := World.block_lt_of_cell? wr _ hcp
          have s1 : IntKind.i64.wrap ((k : Int) - 1) = (j : Int) := by rw [IntWalk.i64_in _ (by omega)]; omega
          have s2 : (j : Int) < (ts.length : Int) := by omega
          have s3 : j < ts.length := by omega
          clear hj
          go_wp2_with fail
          go_quiet (fail)
          go_wp2_with fail
          go_ret
          exact ⟨ret_bool HQ.out.symm, by (repeat (first | with_reducible exact Below.refl _ _ | with_reducible assumption | with_reducible refine Below.drew ?_ | with_reducible refine bdrewN ?_ _ | ((with_reducible refine balloc ?_ ?_ _); (focus (first | with_reducible exact Nat.le_refl _ | (simp; done) | omega | (simp; omega) | exact Nat.le_refl _))) | ((with_reducible refine bset ?_ ?_ _); (focus (first | with_reducible exact Nat.le_refl _ | (simp; done) | omega | (simp; omega) | exact Nat.le_refl _)))))⟩
    · rw [List.drop_eq_nil_of_le (by omega)] at hq
      have HQ := Lib.hid hq
      clear hq
      go_wp2_with fail
      go_ret
      exact ⟨ret_bool HQ.out.symm, be⟩
theorem linOk_impl_yes (own : Bool) (l h : Nat) (v : Value) (ts : List T) (w : World) (h1 : Terms own l h w v ts) (hw : h ≤ w.heap.size) (hk : linOk ts = true) :
    Calls Try.prog 135 #[.agg #[v]] w fun e w' => e = .returned (.bool true) ∧ Below w.heap.size w w' := by
  have := linOk_impl own l h v ts w h1 hw
  rw [hk] at this; exact this
theorem linOk_impl_no (own : Bool) (l h : Nat) (v : Value) (ts : List T) (w : World) (h1 : Terms own l h w v ts) (hw : h ≤ w.heap.size) (hk : linOk ts = false) :
    Calls Try.prog 135 #[.agg #[v]] w fun e w' => e = .returned (.bool false) ∧ Below w.heap.size w w' := by
  have := linOk_impl own l h v ts w h1 hw
  rw [hk] at this; exact this
theorem linOk_spec_yes (own : Bool) (l h : Nat) (v : Value) (ts : List T) (w : World) (h1 : Terms own l h w v ts) (hw : h ≤ w.heap.size) (hk : linOk ts = true) :
    Calls Try.prog 94 #[.agg #[v]] w fun e w' => e = .returned (.bool true) ∧ Below w.heap.size w w' := by
  have := linOk_spec own l h v ts w h1 hw
  rw [hk] at this; exact this
theorem linOk_spec_no (own : Bool) (l h : Nat) (v : Value) (ts : List T) (w : World) (h1 : Terms own l h w v ts) (hw : h ≤ w.heap.size) (hk : linOk ts = false) :
    Calls Try.prog 94 #[.agg #[v]] w fun e w' => e = .returned (.bool false) ∧ Below w.heap.size w w' := by
  have := linOk_spec own l h v ts w h1 hw
  rw [hk] at this; exact this
end Go.Proofs.Yteekpdlkdpkegaa.L
