/- B4: LinOk Mrg Const Lc CutP -/
import Derived.Test.YthipgpbapdambaaGreatB1
import Derived.Test.YthipgpbapdambaaGreatB1
import Derived.IntWalk
import Derived.Shelf.Abstract
import Derived.WalkMore
import Derived.Maps.AppendAt
import Derived.Deep.RegionWith
import Derived.StillTailTactics
import Derived.Deep.Cut
import Derived.Deep.CutBlock
import Derived.Deep.DeepCutAuto
set_option linter.unusedVariables false
set_option linter.unusedSimpArgs false
/- Valid linear combinations: LinOk of the program and of its model; Const, VarOf. -/
namespace Go.Proofs.YthipgpbapdambaaGreat.L
open Go.RowKit Go.Proofs.YthipgpbapdambaaGreat.S
set_option linter.unusedVariables false
set_option linter.unusedSimpArgs false

/-- The terms are ascending behind last, and within their bounds. -/
def okFrom : Int → List T → Bool
 | _, [] => true
 | last, t :: ts => decide (last < t.1 ∧ t.1 < 3000 ∧ 0 < t.2 ∧ t.2 < 2147483647) && okFrom t.1 ts
def linOk (ts : List T) : Bool := okFrom (-1) ts

theorem okFrom_good {last x y : Int} {ts : List T} (h : last < x ∧ x < 3000 ∧ 0 < y ∧ y < 2147483647) : okFrom last ((x, y) :: ts) = okFrom x ts := by simp [okFrom, h]
theorem okFrom_bad {last x y : Int} {ts : List T} (h : ¬ (last < x ∧ x < 3000 ∧ 0 < y ∧ y < 2147483647)) : okFrom last ((x, y) :: ts) = false := by
 simp only [okFrom, decide_eq_false h, Bool.false_and]
theorem drop_step {ts : List T} {k : Nat} {t : T} (h : ts[k]? = some t) : ts.drop k = t :: ts.drop (k + 1) := by
 have hk := (List.getElem?_eq_some_iff.1 h).1
 rw [List.drop_eq_getElem_cons hk]
 congr 1
 exact (List.getElem?_eq_some_iff.1 h).2

theorem fok_yes (n : Int) (w : World) (h0 : 0 ≤ n) (h1 : n < 2147483647) : Calls Tryz.prog 90 #[.int .i64 n] w fun e w' => e = .returned (.bool true) ∧ w = w' :=
 (fok_impl n w).mono fun e w' ⟨he, hw⟩ => ⟨by rw [he]; exact S.ret_bool (by simp; omega), hw⟩
theorem fok_no (n : Int) (w : World) (h : n < 0 ∨ 2147483647 ≤ n) : Calls Tryz.prog 90 #[.int .i64 n] w fun e w' => e = .returned (.bool false) ∧ w = w' :=
 (fok_impl n w).mono fun e w' ⟨he, hw⟩ => ⟨by rw [he]; exact S.ret_bool (by simp; omega), hw⟩

set_option maxRecDepth 100000 in
set_option maxHeartbeats 3200000 in
theorem linOk_impl (own : Bool) (l h : Nat) (v : Value) (ts : List T) (w : World) (h1 : Terms own l h w v ts) (hw : h ≤ w.heap.size) :
  Calls Tryz.prog 113 #[.agg #[v]] w fun e w' => e = .returned (.bool (linOk ts)) ∧ Below w.heap.size w w' := by
 obtain ⟨a, ca, rfl, la, ba⟩ := h1.shape
 go_enter Tryz.func113, Tryz.ntmps113
 go_wp2_with fail
 go_loopw [3, 9] (fun p i wr => ∃ (k : Nat) (last : Int), k ≤ ts.length ∧ i = .int .i64 k ∧ p = .int .i64 last ∧ -1 ≤ last ∧ last < 3000 ∧ linOk ts = okFrom last (ts.drop k) ∧ Below w.heap.size w wr) (fun _ i _ => ts.length - (intOf i).toNat)
 case atStart => exact ⟨0, -1, Nat.zero_le _, rfl, rfl, by omega, by omega, rfl, by (repeat (with_reducible first | exact bR _ _ | assumption | refine bD ?_ | refine bN ?_ _ | refine bA ?_ _ | refine bS ?_ _))⟩
 case round =>
  obtain ⟨k, last, hk, rfl, rfl, p0, p1, hq, be⟩ := hrel
  have hz := be.size
  by_cases hlt : k < ts.length
  ·obtain ⟨b, off, x, y, rfl, l1, m1, c1, d1, e1, fx, fy⟩ := (h1.keep be hw).at hlt
   rw [drop_step e1] at hq
   by_cases g : last < x ∧ x < 3000 ∧ 0 < y ∧ y < 2147483647
   ·rw [okFrom_good g] at hq
    have HQ := Lib.hid hq
    clear hq e1
    obtain ⟨g1, g2, g3, g4⟩ := g
    have by0 : (y == 0) = false := by simp; omega
    go_wp2_with (go_at_call 90; refine (fok_yes y _ (by omega) g4).mono ?_; rintro e w' ⟨rfl, rfl⟩)
    go_roundw
    case rel => exact ⟨k + 1, x, by omega, by go_num, rfl, by omega, g2, HQ.out, by (repeat (with_reducible first | exact bR _ _ | assumption | refine bD ?_ | refine bN ?_ _ | refine bA ?_ _ | refine bS ?_ _))⟩
    case measure => simp [intOf]; omega
   ·rw [okFrom_bad g] at hq
    have HQ := Lib.hid hq
    clear hq e1
    have cases : x ≤ last ∨ (last < x ∧ 3000 ≤ x) ∨ (last < x ∧ x < 3000 ∧ y = 0) ∨ (last < x ∧ x < 3000 ∧ (y < 0 ∨ 2147483647 ≤ y)) := by omega
    clear g
    rcases cases with g1 | ⟨g1, g2⟩ | ⟨g1, g2, g3⟩ | ⟨g1, g2, g3⟩
    ·go_wp2_with fail
     go_ret
     exact ⟨ret_bool HQ.out.symm, by (repeat (with_reducible first | exact bR _ _ | assumption | refine bD ?_ | refine bN ?_ _ | refine bA ?_ _ | refine bS ?_ _))⟩
    ·go_wp2_with fail
     go_ret
     exact ⟨ret_bool HQ.out.symm, by (repeat (with_reducible first | exact bR _ _ | assumption | refine bD ?_ | refine bN ?_ _ | refine bA ?_ _ | refine bS ?_ _))⟩
    ·subst g3
     go_wp2_with fail
     go_ret
     exact ⟨ret_bool HQ.out.symm, by (repeat (with_reducible first | exact bR _ _ | assumption | refine bD ?_ | refine bN ?_ _ | refine bA ?_ _ | refine bS ?_ _))⟩
    ·have by0 : (y == 0) = false := by simp; omega
     go_wp2_with (go_at_call 90; refine (fok_no y _ g3).mono ?_; rintro e w' ⟨rfl, rfl⟩)
     go_ret
     exact ⟨ret_bool HQ.out.symm, by (repeat (with_reducible first | exact bR _ _ | assumption | refine bD ?_ | refine bN ?_ _ | refine bA ?_ _ | refine bS ?_ _))⟩
  ·rw [List.drop_eq_nil_of_le (by omega)] at hq
   have HQ := Lib.hid hq
   clear hq
   go_wp2_with fail
   go_ret
   exact ⟨ret_bool HQ.out.symm, be⟩

/-- The variable of the term before. -/
def Prev (ts : List T) (k : Nat) (last : Int) : Prop := (k = 0 ∧ last = -1) ∨ (0 < k ∧ ∃ y, ts[k - 1]? = some (last, y))

set_option maxRecDepth 100000 in
set_option maxHeartbeats 3200000 in
theorem linOk_spec (own : Bool) (l h : Nat) (v : Value) (ts : List T) (w : World) (h1 : Terms own l h w v ts) (hw : h ≤ w.heap.size) :
  Calls Tryz.prog 59 #[.agg #[v]] w fun e w' => e = .returned (.bool (linOk ts)) ∧ Below w.heap.size w w' := by
 obtain ⟨a, ca, rfl, la, ba⟩ := h1.shape
 go_enter Tryz.func59, Tryz.ntmps59
 go_wp2_with fail
 have cb : (w.alloc (.cells #[.slice a ts.length ca] 53)).cell? ⟨w.heap.size, 0, none⟩ = some (.slice a ts.length ca) := by simp
 go_loopw [3] (fun i wr => ∃ (k : Nat) (last : Int), k ≤ ts.length ∧ i = .int .i64 k ∧ -1 ≤ last ∧ last < 3000 ∧ Prev ts k last ∧ linOk ts = okFrom last (ts.drop k) ∧ Below w.heap.size w wr ∧ w.heap.size < wr.heap.size ∧ wr.cell? ⟨w.heap.size, 0, none⟩ = some (.slice a ts.length ca)) (fun i _ => ts.length - (intOf i).toNat)
 case atStart => exact ⟨0, -1, Nat.zero_le _, rfl, by omega, by omega, .inl ⟨rfl, rfl⟩, rfl, by (repeat (with_reducible first | exact bR _ _ | assumption | refine bD ?_ | refine bN ?_ _ | refine bA ?_ _ | refine bS ?_ _)), by simp, by simp⟩
 case round =>
  obtain ⟨k, last, hk, rfl, p0, p1, hp, hq, be, hs, hc⟩ := hrel
  by_cases hlt : k < ts.length
  ·have hat := (h1.keep be hw).at hlt
   obtain ⟨b, off, x, y, rfl, l1, m1, c1, d1, e1, fx, fy⟩ := hat
   rw [drop_step e1] at hq
   have hpc : (k = 0 ∧ last = -1) ∨ (∃ j : Nat, k = j + 1 ∧ wr.cell? ⟨b, off + j * 2, none⟩ = some (.int .i64 last)) := by
    rcases hp with h0 | ⟨h0, z, hz⟩
    ·exact .inl h0
    ·obtain ⟨b', off', x', y', e', _, _, c', _, ez, _⟩ := (h1.keep be hw).at (k := k - 1) (by omega)
     simp only [Option.some.injEq, Addr.mk.injEq, and_true] at e'
     obtain ⟨rfl, rfl⟩ := e'
     rw [hz] at ez
     simp only [Option.some.injEq, Prod.mk.injEq] at ez
     obtain ⟨rfl, rfl⟩ := ez
     exact .inr ⟨k - 1, by omega, c'⟩
   have hpr : Prev ts (k + 1) x := .inr ⟨by omega, y, e1⟩
   clear hp
   by_cases g : last < x ∧ x < 3000 ∧ 0 < y ∧ y < 2147483647
   ·rw [okFrom_good g] at hq
    have HQ := Lib.hid hq
    clear hq e1
    obtain ⟨g1, g2, g3, g4⟩ := g
    have b1 : decide (x < 0) = false := by simp; omega
    have b2 : decide (x ≥ 3000) = false := by simp; omega
    have b3 : decide (y < 1) = false := by simp; omega
    have b4 : decide (y ≥ 2147483647) = false := by simp; omega
    rcases hpc with ⟨hk0, hl0⟩ | ⟨j, hj, hcp⟩
    ·subst hk0
     simp only [Nat.zero_mul, Nat.add_zero] at c1 d1
     clear hl0
     go_wp2_with fail
     go_quiet (fail)
     go_wp2_with fail
     go_roundw
     case rel => exact ⟨1, x, by omega, by go_num, by omega, g2, hpr, HQ.out, by (repeat (with_reducible first | exact bR _ _ | assumption | refine bD ?_ | refine bN ?_ _ | refine bA ?_ _ | refine bS ?_ _)), by simp; omega, by go_simp⟩
     case measure => simp [intOf]; omega
    ·have b5 : decide (last ≥ x) = false := by simp; omega
     have b6 : 0 < k := by omega
     have hbs : b < wr.heap.size := World.block_lt_of_cell? wr _ hcp
     have s1 : IntKind.i64.wrap ((k : Int) - 1) = (j : Int) := by rw [IntWalk.i64_in _ (by omega)]; omega
     have s2 : (j : Int) < (ts.length : Int) := by omega
     have s3 : j < ts.length := by omega
     clear hj
     go_wp2_with fail
     go_quiet (fail)
     go_wp2_with fail
     go_roundw
     case rel => exact ⟨k + 1, x, by omega, by go_num, by omega, g2, hpr, HQ.out, by (repeat (with_reducible first | exact bR _ _ | assumption | refine bD ?_ | refine bN ?_ _ | refine bA ?_ _ | refine bS ?_ _)), by simp; omega, by go_simp⟩
     case measure => simp [intOf]; omega
   ·rw [okFrom_bad g] at hq
    have HQ := Lib.hid hq
    clear hq e1 hpr
    have cs : (x < 0) ∨ (¬ x < 0 ∧ 3000 ≤ x) ∨ (¬ x < 0 ∧ x < 3000 ∧ y < 1) ∨ (¬ x < 0 ∧ x < 3000 ∧ ¬ y < 1 ∧ 2147483647 ≤ y) ∨ (¬ x < 0 ∧ x < 3000 ∧ ¬ y < 1 ∧ y < 2147483647 ∧ x ≤ last) := by omega
    clear g
    rcases cs with b1 | ⟨b1, b2⟩ | ⟨b1, b2, b3⟩ | ⟨b1, b2, b3, b4⟩ | ⟨b1, b2, b3, b4, b5⟩
    ·replace b1 : decide (x < 0) = true := by simpa using b1
     clear hpc
     go_wp2_with fail
     go_quiet (fail)
     go_wp2_with fail
     go_ret
     exact ⟨ret_bool HQ.out.symm, by (repeat (with_reducible first | exact bR _ _ | assumption | refine bD ?_ | refine bN ?_ _ | refine bA ?_ _ | refine bS ?_ _))⟩
    ·replace b1 : decide (x < 0) = false := by simpa using b1
     replace b2 : decide (x ≥ 3000) = true := by simpa using b2
     clear hpc
     go_wp2_with fail
     go_quiet (fail)
     go_wp2_with fail
     go_ret
     exact ⟨ret_bool HQ.out.symm, by (repeat (with_reducible first | exact bR _ _ | assumption | refine bD ?_ | refine bN ?_ _ | refine bA ?_ _ | refine bS ?_ _))⟩
    ·replace b1 : decide (x < 0) = false := by simpa using b1
     replace b2 : decide (x ≥ 3000) = false := by simp; omega
     replace b3 : decide (y < 1) = true := by simpa using b3
     clear hpc
     go_wp2_with fail
     go_quiet (fail)
     go_wp2_with fail
     go_ret
     exact ⟨ret_bool HQ.out.symm, by (repeat (with_reducible first | exact bR _ _ | assumption | refine bD ?_ | refine bN ?_ _ | refine bA ?_ _ | refine bS ?_ _))⟩
    ·replace b1 : decide (x < 0) = false := by simpa using b1
     replace b2 : decide (x ≥ 3000) = false := by simp; omega
     replace b3 : decide (y < 1) = false := by simpa using b3
     replace b4 : decide (y ≥ 2147483647) = true := by simpa using b4
     clear hpc
     go_wp2_with fail
     go_quiet (fail)
     go_wp2_with fail
     go_ret
     exact ⟨ret_bool HQ.out.symm, by (repeat (with_reducible first | exact bR _ _ | assumption | refine bD ?_ | refine bN ?_ _ | refine bA ?_ _ | refine bS ?_ _))⟩
    ·rcases hpc with ⟨hk0, hl0⟩ | ⟨j, hj, hcp⟩
     ·omega
     replace b1 : decide (x < 0) = false := by simpa using b1
     replace b2 : decide (x ≥ 3000) = false := by simp; omega
     replace b3 : decide (y < 1) = false := by simpa using b3
     replace b4 : decide (y ≥ 2147483647) = false := by simp; omega
     replace b5 : decide (last ≥ x) = true := by simpa using b5
     have b6 : 0 < k := by omega
     have hbs : b < wr.heap.size := World.block_lt_of_cell? wr _ hcp
     have s1 : IntKind.i64.wrap ((k : Int) - 1) = (j : Int) := by rw [IntWalk.i64_in _ (by omega)]; omega
     have s2 : (j : Int) < (ts.length : Int) := by omega
     have s3 : j < ts.length := by omega
     clear hj
     go_wp2_with fail
     go_quiet (fail)
     go_wp2_with fail
     go_ret
     exact ⟨ret_bool HQ.out.symm, by (repeat (with_reducible first | exact bR _ _ | assumption | refine bD ?_ | refine bN ?_ _ | refine bA ?_ _ | refine bS ?_ _))⟩
  ·rw [List.drop_eq_nil_of_le (by omega)] at hq
   have HQ := Lib.hid hq
   clear hq
   go_wp2_with fail
   go_ret
   exact ⟨ret_bool HQ.out.symm, be⟩
theorem linOk_impl_yes (own : Bool) (l h : Nat) (v : Value) (ts : List T) (w : World) (h1 : Terms own l h w v ts) (hw : h ≤ w.heap.size) (hk : linOk ts = true) :
  Calls Tryz.prog 113 #[.agg #[v]] w fun e w' => e = .returned (.bool true) ∧ Below w.heap.size w w' := by
 have := linOk_impl own l h v ts w h1 hw
 rw [hk] at this; exact this
theorem linOk_impl_no (own : Bool) (l h : Nat) (v : Value) (ts : List T) (w : World) (h1 : Terms own l h w v ts) (hw : h ≤ w.heap.size) (hk : linOk ts = false) :
  Calls Tryz.prog 113 #[.agg #[v]] w fun e w' => e = .returned (.bool false) ∧ Below w.heap.size w w' := by
 have := linOk_impl own l h v ts w h1 hw
 rw [hk] at this; exact this
theorem linOk_spec_yes (own : Bool) (l h : Nat) (v : Value) (ts : List T) (w : World) (h1 : Terms own l h w v ts) (hw : h ≤ w.heap.size) (hk : linOk ts = true) :
  Calls Tryz.prog 59 #[.agg #[v]] w fun e w' => e = .returned (.bool true) ∧ Below w.heap.size w w' := by
 have := linOk_spec own l h v ts w h1 hw
 rw [hk] at this; exact this
theorem linOk_spec_no (own : Bool) (l h : Nat) (v : Value) (ts : List T) (w : World) (h1 : Terms own l h w v ts) (hw : h ≤ w.heap.size) (hk : linOk ts = false) :
  Calls Tryz.prog 59 #[.agg #[v]] w fun e w' => e = .returned (.bool false) ∧ Below w.heap.size w w' := by
 have := linOk_spec own l h v ts w h1 hw
 rw [hk] at this; exact this
end Go.Proofs.YthipgpbapdambaaGreat.L

/- Sums of linear combinations, taken for lists of terms: the terms of a plus k times b, in ascending order. -/
namespace Go.Proofs.YthipgpbapdambaaGreat.L
open Go.RowKit Go.Proofs.YthipgpbapdambaaGreat.S
set_option linter.unusedVariables false

/-- k times a term; a term more of the same variable; a term that is left out where it is nothing. -/
def tm (k : Int) (b : T) : T := (b.1, b.2 * k % 2147483647)
def pl (a b : T) : T := (a.1, (a.2 + b.2) % 2147483647)
def kp (t : T) (l : List T) : List T := if t.2 = 0 then l else t :: l

def mrg (k : Int) : List T → List T → List T
 | [], [] => []
 | a :: xs, [] => kp a (mrg k xs [])
 | [], b :: ys => kp (tm k b) (mrg k [] ys)
 | a :: xs, b :: ys =>
  if a.1 < b.1 then kp a (mrg k xs (b :: ys))
  else if b.1 < a.1 then kp (tm k b) (mrg k (a :: xs) ys)
  else kp (pl a (tm k b)) (mrg k xs ys)
termination_by xs ys => xs.length + ys.length

theorem mrg_nil (k : Int) : mrg k [] [] = [] := by rw [mrg]
theorem mrg_a (k : Int) (a : T) (xs : List T) : mrg k (a :: xs) [] = kp a (mrg k xs []) := by rw [mrg]
theorem mrg_b (k : Int) (b : T) (ys : List T) : mrg k [] (b :: ys) = kp (tm k b) (mrg k [] ys) := by rw [mrg]
theorem mrg_lt (k : Int) (a b : T) (xs ys : List T) (h : a.1 < b.1) : mrg k (a :: xs) (b :: ys) = kp a (mrg k xs (b :: ys)) := by rw [mrg, if_pos h]
theorem mrg_gt (k : Int) (a b : T) (xs ys : List T) (h : b.1 < a.1) : mrg k (a :: xs) (b :: ys) = kp (tm k b) (mrg k (a :: xs) ys) := by rw [mrg, if_neg (by omega), if_pos h]
theorem mrg_eq (k : Int) (a b : T) (xs ys : List T) (h : a.1 = b.1) : mrg k (a :: xs) (b :: ys) = kp (pl a (tm k b)) (mrg k xs ys) := by rw [mrg, if_neg (by omega), if_neg (by omega)]

theorem kp_length (t : T) (l : List T) : (kp t l).length ≤ l.length + 1 := by unfold kp; split <;> simp
theorem mrg_length (k : Int) : ∀ (xs ys : List T), (mrg k xs ys).length ≤ xs.length + ys.length
 | [], [] => by rw [mrg_nil]; simp
 | a :: xs, [] => by
  rw [mrg_a]
  have := kp_length a (mrg k xs [])
  have := mrg_length k xs []
  simp at *; omega
 | [], b :: ys => by
  rw [mrg_b]
  have := kp_length (tm k b) (mrg k [] ys)
  have := mrg_length k [] ys
  simp at *; omega
 | a :: xs, b :: ys => by
  by_cases h : a.1 < b.1
  ·rw [mrg_lt k a b xs ys h]
   have := kp_length a (mrg k xs (b :: ys))
   have := mrg_length k xs (b :: ys)
   simp at *; omega
  ·by_cases h2 : b.1 < a.1
   ·rw [mrg_gt k a b xs ys h2]
    have := kp_length (tm k b) (mrg k (a :: xs) ys)
    have := mrg_length k (a :: xs) ys
    simp at *; omega
   ·rw [mrg_eq k a b xs ys (by omega)]
    have := kp_length (pl a (tm k b)) (mrg k xs ys)
    have := mrg_length k xs ys
    simp at *; omega
termination_by xs ys => xs.length + ys.length

/-- Where the two lists stand behind some rounds, and what has come. -/
def Sofar (k : Int) (xs ys : List T) (i j : Nat) (pre : List T) : Prop := pre ++ mrg k (xs.drop i) (ys.drop j) = mrg k xs ys
theorem Sofar.start (k : Int) (xs ys : List T) : Sofar k xs ys 0 0 [] := rfl
theorem Sofar.len {k : Int} {xs ys : List T} {i j : Nat} {pre : List T} (h : Sofar k xs ys i j pre) : pre.length ≤ xs.length + ys.length := by
 have h1 := congrArg List.length h
 have h2 := mrg_length k xs ys
 simp only [List.length_append] at h1
 omega
/-- The next term t; behind it the lists stand at i', j'. -/
def Next (k : Int) (xs ys : List T) (i j : Nat) (t : T) (i' j' : Nat) : Prop := mrg k (xs.drop i) (ys.drop j) = kp t (mrg k (xs.drop i') (ys.drop j'))
theorem Sofar.miss {k : Int} {xs ys : List T} {i j i' j' : Nat} {t : T} {pre : List T} (h : Sofar k xs ys i j pre) (hn : Next k xs ys i j t i' j') (h0 : t.2 = 0) : Sofar k xs ys i' j' pre := by
 unfold Sofar Next at *; rw [hn, kp, if_pos h0] at h; exact h
theorem Sofar.hit {k : Int} {xs ys : List T} {i j i' j' : Nat} {t : T} {pre : List T} (h : Sofar k xs ys i j pre) (hn : Next k xs ys i j t i' j') (h0 : t.2 ≠ 0) : Sofar k xs ys i' j' (pre ++ [t]) := by
 unfold Sofar Next at *; rw [hn, kp, if_neg h0] at h; rw [List.append_assoc]; exact h
theorem Sofar.lt {k : Int} {xs ys : List T} {i j i' j' : Nat} {t : T} {pre : List T} (h : Sofar k xs ys i j pre) (hn : Next k xs ys i j t i' j') (h0 : t.2 ≠ 0) : pre.length < xs.length + ys.length := by
 have := (h.hit hn h0).len
 simp at this; omega
theorem Sofar.stop {k : Int} {xs ys : List T} {i j : Nat} {pre : List T} (h : Sofar k xs ys i j pre) (hi : xs.length ≤ i) (hj : ys.length ≤ j) : pre = mrg k xs ys := by
 unfold Sofar at h; rw [List.drop_eq_nil_of_le hi, List.drop_eq_nil_of_le hj, mrg_nil, List.append_nil] at h; exact h
theorem Sofar.part {k : Int} {xs ys : List T} {i j : Nat} {pre : List T} (h : Sofar k xs ys i j pre) : pre <+: mrg k xs ys := ⟨_, h⟩

theorem next_a {k : Int} {xs ys : List T} {i j : Nat} {a : T} (ha : xs[i]? = some a) (hj : ys.length ≤ j) : Next k xs ys i j a (i + 1) j := by
 unfold Next; rw [drop_step ha, List.drop_eq_nil_of_le hj, mrg_a]
theorem next_b {k : Int} {xs ys : List T} {i j : Nat} {b : T} (hb : ys[j]? = some b) (hi : xs.length ≤ i) : Next k xs ys i j (tm k b) i (j + 1) := by
 unfold Next; rw [drop_step hb, List.drop_eq_nil_of_le hi, mrg_b]
theorem next_lt {k : Int} {xs ys : List T} {i j : Nat} {a b : T} (ha : xs[i]? = some a) (hb : ys[j]? = some b) (h : a.1 < b.1) : Next k xs ys i j a (i + 1) j := by
 unfold Next; rw [drop_step ha, drop_step hb, mrg_lt k a b _ _ h]
theorem next_gt {k : Int} {xs ys : List T} {i j : Nat} {a b : T} (ha : xs[i]? = some a) (hb : ys[j]? = some b) (h : b.1 < a.1) : Next k xs ys i j (tm k b) i (j + 1) := by
 unfold Next; rw [drop_step ha, drop_step hb, mrg_gt k a b _ _ h]
theorem next_eq {k : Int} {xs ys : List T} {i j : Nat} {a b : T} (ha : xs[i]? = some a) (hb : ys[j]? = some b) (h : a.1 = b.1) : Next k xs ys i j (pl a (tm k b)) (i + 1) (j + 1) := by
 unfold Next; rw [drop_step ha, drop_step hb, mrg_eq k a b _ _ h]

/-- The factors of a valid combination are numbers of the field other than 0. -/
theorem okFrom_mem : ∀ {ts : List T} {p : Int}, okFrom p ts = true → ∀ t ∈ ts, p < t.1 ∧ t.1 < 3000 ∧ 0 < t.2 ∧ t.2 < 2147483647
 | [], _, _, t, ht => by simp at ht
 | u :: us, p, h, t, ht => by
  simp only [okFrom, Bool.and_eq_true, decide_eq_true_eq] at h
  obtain ⟨⟨h1, h2, h3, h4⟩, h5⟩ := h
  rcases List.mem_cons.1 ht with rfl | ht
  ·exact ⟨h1, h2, h3, h4⟩
  ·have := okFrom_mem h5 t ht
   exact ⟨by omega, this.2⟩
theorem linOk_mem {ts : List T} (h : linOk ts = true) : ∀ t ∈ ts, 0 ≤ t.1 ∧ t.1 < 3000 ∧ 0 < t.2 ∧ t.2 < 2147483647 := fun t ht => by
 have := okFrom_mem h t ht
 exact ⟨by omega, this.2⟩
theorem linOk_at {ts : List T} (h : linOk ts = true) {i : Nat} {t : T} (hi : ts[i]? = some t) : 0 ≤ t.1 ∧ t.1 < 3000 ∧ 0 < t.2 ∧ t.2 < 2147483647 := linOk_mem h t (List.mem_of_getElem? hi)
theorem okFrom_length : ∀ {ts : List T} {p : Int}, okFrom p ts = true → -1 ≤ p → p < 3000 → (ts.length : Int) ≤ 2999 - p
 | [], p, _, _, _ => by simp; omega
 | u :: us, p, h, h0, h1 => by
  simp only [okFrom, Bool.and_eq_true, decide_eq_true_eq] at h
  obtain ⟨⟨h2, h3, h4, h5⟩, h6⟩ := h
  have := okFrom_length h6 (by omega) h3
  simp; omega
theorem linOk_length {ts : List T} (h : linOk ts = true) : ts.length ≤ 3000 := by
 have := okFrom_length h (by omega) (by omega)
 omega

theorem okFrom_mono : ∀ {ts : List T} {p q : Int}, okFrom q ts = true → p ≤ q → okFrom p ts = true
 | [], _, _, _, _ => rfl
 | u :: us, p, q, h, hp => by
  simp only [okFrom, Bool.and_eq_true, decide_eq_true_eq] at h ⊢
  obtain ⟨⟨h2, h3, h4, h5⟩, h6⟩ := h
  exact ⟨⟨by omega, h3, h4, h5⟩, h6⟩
theorem okFrom_kp {p : Int} {t : T} {l : List T} (h0 : p < t.1) (h1 : t.1 < 3000) (h2 : 0 ≤ t.2) (h3 : t.2 < 2147483647) (hl : okFrom t.1 l = true) : okFrom p (kp t l) = true := by
 unfold kp
 split
 ·exact okFrom_mono hl (by omega)
 ·simp only [okFrom, Bool.and_eq_true, decide_eq_true_eq]
  exact ⟨⟨h0, h1, by omega, h3⟩, hl⟩
theorem okFrom_cons {p : Int} {t : T} {l : List T} (h : okFrom p (t :: l) = true) : (p < t.1 ∧ t.1 < 3000 ∧ 0 < t.2 ∧ t.2 < 2147483647) ∧ okFrom t.1 l = true := by
 simpa only [okFrom, Bool.and_eq_true, decide_eq_true_eq] using h
theorem okFrom_up {p q : Int} {t : T} {l : List T} (h : okFrom p (t :: l) = true) (hq : q < t.1) : okFrom q (t :: l) = true := by
 simp only [okFrom, Bool.and_eq_true, decide_eq_true_eq] at h ⊢
 exact ⟨⟨hq, h.1.2⟩, h.2⟩
theorem mrg_ok (k : Int) : ∀ (xs ys : List T) (p : Int), okFrom p xs = true → okFrom p ys = true → okFrom p (mrg k xs ys) = true
 | [], [], p, _, _ => by rw [mrg_nil]; rfl
 | a :: xs, [], p, hx, _ => by
  obtain ⟨⟨h0, h1, h2, h3⟩, h4⟩ := okFrom_cons hx
  rw [mrg_a]
  exact okFrom_kp h0 h1 (by omega) h3 (mrg_ok k xs [] a.1 h4 rfl)
 | [], b :: ys, p, _, hy => by
  obtain ⟨⟨h0, h1, h2, h3⟩, h4⟩ := okFrom_cons hy
  rw [mrg_b]
  exact okFrom_kp (t := tm k b) h0 h1 (by unfold tm; simp only; omega) (by unfold tm; simp only; omega) (mrg_ok k [] ys b.1 rfl h4)
 | a :: xs, b :: ys, p, hx, hy => by
  obtain ⟨⟨h0, h1, h2, h3⟩, h4⟩ := okFrom_cons hx
  obtain ⟨⟨g0, g1, g2, g3⟩, g4⟩ := okFrom_cons hy
  by_cases h : a.1 < b.1
  ·rw [mrg_lt k a b xs ys h]
   exact okFrom_kp h0 h1 (by omega) h3 (mrg_ok k xs (b :: ys) a.1 h4 (okFrom_up hy h))
  ·by_cases h' : b.1 < a.1
   ·rw [mrg_gt k a b xs ys h']
    exact okFrom_kp (t := tm k b) g0 g1 (by unfold tm; simp only; omega) (by unfold tm; simp only; omega) (mrg_ok k (a :: xs) ys b.1 (okFrom_up hx h') g4)
   ·have e : a.1 = b.1 := by omega
    rw [mrg_eq k a b xs ys e]
    exact okFrom_kp (t := pl a (tm k b)) h0 h1 (by unfold pl tm; simp only; omega) (by unfold pl tm; simp only; omega) (mrg_ok k xs ys a.1 h4 (by rw [e]; exact g4))
termination_by xs ys => xs.length + ys.length
theorem linOk_mrg {k : Int} {xs ys : List T} (hx : linOk xs = true) (hy : linOk ys = true) : linOk (mrg k xs ys) = true := mrg_ok k xs ys (-1) hx hy
theorem linOk_fits {ts : List T} (h : linOk ts = true) : ∀ t ∈ ts, Fits t.1 ∧ Fits t.2 := fun t ht => by
 have := linOk_mem h t ht
 unfold Fits; omega
end Go.Proofs.YthipgpbapdambaaGreat.L

/- Constants, variables, factors: the program's functions and their models. -/
namespace Go.Proofs.YthipgpbapdambaaGreat.L
open Go.RowKit Go.Proofs.YthipgpbapdambaaGreat.S
set_option linter.unusedVariables false
set_option linter.unusedSimpArgs false

/-- A row of one term, just made. -/
theorem Terms.one (w : World) (x y : Int) (fx : Fits x) (fy : Fits y) : Terms true w.heap.size (w.heap.size + 1) (w.alloc (.cells #[.int .i64 x, .int .i64 y] 159)) (.slice (some ⟨w.heap.size, 0, none⟩) 1 1) [(x, y)] := by
 refine ⟨_, 1, rfl, Nat.le_refl _, by omega, ?_, .inr ⟨w.heap.size, 0, rfl, Nat.le_refl _, by omega, fun _ j => World.frozen?_alloc_at _ _ _ _ rfl, fun j t hj => ?_⟩⟩
 ·intro t ht
  simp at ht
  subst ht
  exact ⟨fx, fy⟩
 ·match j, hj with
  | 0, hj =>
   simp at hj
   subst hj
   exact ⟨by rw [World.cell?_alloc_at _ _ _ _ rfl]; rfl, by rw [World.cell?_alloc_at _ _ _ _ rfl]; rfl⟩

/-- The constant k. -/
def constOf (k : Int) : List T := if k % 2147483647 = 0 then [] else [(0, k % 2147483647)]
/-- The variable v. -/
def varOf (v : Int) : List T := if 0 ≤ v ∧ v < 3000 then [(v, 1)] else []
def varOk (v : Int) : Bool := decide (0 ≤ v ∧ v < 3000)

theorem constOf_len (k : Int) : (constOf k).length ≤ 1 := by unfold constOf; split <;> simp
theorem varOf_len (v : Int) : (varOf v).length ≤ 1 := by unfold varOf; split <;> simp

/-- What a function that returns a linear combination ends in. -/
def RetLin (w : World) (ts : List T) (e : Ending) (w' : World) : Prop := ∃ u, e = .returned (.agg #[u]) ∧ Below w.heap.size w w' ∧ Terms true w.heap.size w'.heap.size w' u ts
def RetLinOk (w : World) (ts : List T) (ok : Bool) (e : Ending) (w' : World) : Prop := ∃ u, e = .returned (.tuple #[.agg #[u], .bool ok]) ∧ Below w.heap.size w w' ∧ Terms true w.heap.size w'.heap.size w' u ts

set_option maxHeartbeats 800000 in
theorem l2const_any (k : Int) (w : World) (k0 : 0 ≤ k) (k1 : k < 2147483647) :
  Calls Tryz.prog 116 #[.int .i64 k] w fun e w' => ∃ u, e = .returned (.agg #[u]) ∧ Below w.heap.size w w' ∧ Terms true w.heap.size w'.heap.size w' u (constOf k) := by
 by_cases h : k = 0
 ·rw [show constOf k = [] from if_pos (by omega)]
  subst h
  go_enter Tryz.func116, Tryz.ntmps116
  go_wp2_with fail
  exact bodyPost_ret (v := .agg #[.slice none 0 0]) (by simp [results, Tryz.results116, go_sem]) rfl ⟨_, rfl, by (repeat (with_reducible first | exact bR _ _ | assumption | refine bD ?_ | refine bN ?_ _ | refine bA ?_ _ | refine bS ?_ _)), Terms.nil _ _ _ _⟩
 ·rw [show constOf k = [(0, k)] from (if_neg (by omega)).trans (by rw [Int.emod_eq_of_lt k0 k1])]
  have hb : (k == 0) = false := by simp [h]
  clear h
  go_enter Tryz.func116, Tryz.ntmps116
  go_wp2_with fail
  refine bodyPost_ret (v := .agg #[.slice (some ⟨w.heap.size + 1, 0, none⟩) 1 1]) (by simp [results, Tryz.results116, go_sem]) rfl ⟨_, rfl, by (repeat (with_reducible first | exact bR _ _ | assumption | refine bD ?_ | refine bN ?_ _ | refine bA ?_ _ | refine bS ?_ _)), ?_⟩
  have h1 := fun o => Terms.one (w.alloc o) 0 k (by unfold Fits; omega) (by unfold Fits; omega)
  simp only [World.size_alloc] at h1
  exact (h1 _).mono (by omega) (by simp)

theorem constOf_mod (k : Int) : constOf (k % 2147483647) = constOf k := by unfold constOf; rw [Int.emod_emod]

set_option maxHeartbeats 800000 in
theorem varOf_impl (v : Int) (w : World) (v0 : -9223372036854775808 ≤ v) (v1 : v ≤ 9223372036854775807) :
  Calls Tryz.prog 125 #[.int .i64 v] w fun e w' => ∃ u, e = .returned (.tuple #[.agg #[u], .bool (varOk v)]) ∧ Below w.heap.size w w' ∧ Terms true w.heap.size w'.heap.size w' u (varOf v) := by
 by_cases h : 0 ≤ v ∧ v < 3000
 ·rw [show varOf v = [(v, 1)] from if_pos h, show varOk v = true from decide_eq_true h]
  obtain ⟨h0, h1⟩ := h
  go_enter Tryz.func125, Tryz.ntmps125
  go_wp2_with fail
  refine bodyPost_ret (v := .tuple #[.agg #[.slice (some ⟨w.heap.size + 1, 0, none⟩) 1 1], .bool true]) (by simp [results, Tryz.results125, go_sem]) rfl ⟨_, rfl, by (repeat (with_reducible first | exact bR _ _ | assumption | refine bD ?_ | refine bN ?_ _ | refine bA ?_ _ | refine bS ?_ _)), ?_⟩
  have h1 := fun o => Terms.one (w.alloc o) v 1 (by unfold Fits; omega) (by unfold Fits; omega)
  simp only [World.size_alloc] at h1
  exact (h1 _).mono (by omega) (by simp)
 ·rw [show varOf v = [] from if_neg h, show varOk v = false from decide_eq_false h]
  by_cases h0 : v < 0
  ·clear h
   go_enter Tryz.func125, Tryz.ntmps125
   go_wp2_with fail
   exact bodyPost_ret (v := .tuple #[.agg #[.slice none 0 0], .bool false]) (by simp [results, Tryz.results125, go_sem]) rfl ⟨_, rfl, by (repeat (with_reducible first | exact bR _ _ | assumption | refine bD ?_ | refine bN ?_ _ | refine bA ?_ _ | refine bS ?_ _)), Terms.nil _ _ _ _⟩
  ·have h1 : 3000 ≤ v := by omega
   clear h
   go_enter Tryz.func125, Tryz.ntmps125
   go_wp2_with fail
   exact bodyPost_ret (v := .tuple #[.agg #[.slice none 0 0], .bool false]) (by simp [results, Tryz.results125, go_sem]) rfl ⟨_, rfl, by (repeat (with_reducible first | exact bR _ _ | assumption | refine bD ?_ | refine bN ?_ _ | refine bA ?_ _ | refine bS ?_ _)), Terms.nil _ _ _ _⟩

set_option maxHeartbeats 800000 in
theorem l2var_any (v : Int) (w : World) (v0 : -9223372036854775808 ≤ v) (v1 : v ≤ 9223372036854775807) :
  Calls Tryz.prog 100 #[.int .i64 v] w fun e w' => ∃ u, e = .returned (.agg #[u]) ∧ Below w.heap.size w w' ∧ Terms true w.heap.size w'.heap.size w' u [(v, 1)] := by
 go_enter Tryz.func100, Tryz.ntmps100
 go_wp2_with fail
 refine bodyPost_ret (v := .agg #[.slice (some ⟨w.heap.size + 1, 0, none⟩) 1 1]) (by simp [results, Tryz.results100, go_sem]) rfl ⟨_, rfl, by (repeat (with_reducible first | exact bR _ _ | assumption | refine bD ?_ | refine bN ?_ _ | refine bA ?_ _ | refine bS ?_ _)), ?_⟩
 have h1 := fun o => Terms.one (w.alloc o) v 1 (by unfold Fits; omega) (by unfold Fits; omega)
 simp only [World.size_alloc] at h1
 exact (h1 _).mono (by omega) (by simp)

set_option maxHeartbeats 800000 in
theorem v_any (v : Int) (w : World) (v0 : -9223372036854775808 ≤ v) (v1 : v ≤ 9223372036854775807) :
  Calls Tryz.prog 63 #[.int .i64 v] w fun e w' => ∃ u, e = .returned (.agg #[u]) ∧ Below w.heap.size w w' ∧ Terms true w.heap.size w'.heap.size w' u [(v, 1)] := by
 go_enter Tryz.func63, Tryz.ntmps63
 go_wp2_with fail
 refine bodyPost_ret (v := .agg #[.slice (some ⟨w.heap.size + 1, 0, none⟩) 1 1]) (by simp [results, Tryz.results63, go_sem]) rfl ⟨_, rfl, by (repeat (with_reducible first | exact bR _ _ | assumption | refine bD ?_ | refine bN ?_ _ | refine bA ?_ _ | refine bS ?_ _)), ?_⟩
 have h1 := fun o => Terms.one (w.alloc o) v 1 (by unfold Fits; omega) (by unfold Fits; omega)
 simp only [World.size_alloc] at h1
 exact (h1 _).mono (by omega) (by simp)

end Go.Proofs.YthipgpbapdambaaGreat.L

/- The sum of two combinations and a multiple, of valid ones. -/
namespace Go.Proofs.YthipgpbapdambaaGreat.L
open Go.RowKit Go.Proofs.YthipgpbapdambaaGreat.S
set_option linter.unusedVariables false
set_option linter.unusedSimpArgs false

set_option linter.unusedSimpArgs false
attribute [local go_sem] Oper.semAt_some

/-- a plus k times b; nothing where one of the two is not valid. -/
def lcomb (k : Int) (xs ys : List T) : List T := if linOk xs && linOk ys then mrg k xs ys else []

/-- a plus k times b, and whether the two are valid. -/
def lok (xs ys : List T) : Bool := linOk xs && linOk ys
theorem lok_cases (xs ys : List T) : (linOk xs = true ∧ linOk ys = true) ∨ (linOk xs = false ∨ (linOk xs = true ∧ linOk ys = false)) := by
 cases linOk xs <;> cases linOk ys <;> simp
theorem lcomb_yes {k : Int} {xs ys : List T} (hx : linOk xs = true) (hy : linOk ys = true) : lcomb k xs ys = mrg k xs ys ∧ lok xs ys = true := by unfold lcomb lok; simp [hx, hy]
theorem lcomb_no {k : Int} {xs ys : List T} (h : linOk xs = false ∨ (linOk xs = true ∧ linOk ys = false)) : lcomb k xs ys = [] ∧ lok xs ys = false := by
 unfold lcomb lok
 rcases h with h | ⟨_, h⟩ <;> simp [h]
theorem lcomb_len (k : Int) (xs ys : List T) : (lcomb k xs ys).length ≤ 6000 := by
 unfold lcomb
 split
 ·rename_i h
  simp only [Bool.and_eq_true] at h
  have := linOk_length h.1
  have := linOk_length h.2
  have := mrg_length k xs ys
  omega
 ·simp

/-- The result is laid into its cell. -/
theorem Terms.stored {own : Bool} {lo lo' R : Nat} {w : World} {v x : Value} {ts : List T} (t : Terms own lo w.heap.size w v ts) (hR : R < lo) (h : lo' ≤ lo) : Terms own lo' (w.setCell ⟨R, 0, none⟩ x).heap.size (w.setCell ⟨R, 0, none⟩ x) v ts := by
 have := (t.only (lo := R) (hi := R + 1) (Only.setCell (p := ⟨R, 0, none⟩) (Only.refl _ _ w) (Nat.le_refl _) (Nat.lt_succ_self _) x) (.inr hR) (Nat.le_refl _)).mono h (Nat.le_refl _)
 rw [World.size_setCell]; exact this
theorem cell_set1 {W : World} {g b o : Nat} {u x : Value} (h : W.cell? ⟨b, o, none⟩ = some x) (hne : b ≠ g) : (W.setCell ⟨g, 0, none⟩ u).cell? ⟨b, o, none⟩ = some x := by
 rw [World.cell?_setCell_other _ _ _ _ (by simp <;> omega)]; exact h

end Go.Proofs.YthipgpbapdambaaGreat.L

/- Where the ways through a drawn region meet. -/
namespace Go.Proofs.YthipgpbapdambaaGreat.L
open Go.RowKit Go.Proofs.YthipgpbapdambaaGreat.S
set_option linter.unusedVariables false
set_option linter.unusedSimpArgs false

theorem chain_step {X Y Z : World} (f : Below Y.heap.size Y Z) (h : Below X.heap.size X Y) : Below X.heap.size X Z := h.trans (f.mono h.size)
theorem keep2 {X W : World} {a b : Addr} {u v : Value} (h1 : X.cell? a = some u) (h2 : X.cell? b = some v) (be : Below X.heap.size X W) : W.cell? a = some u ∧ W.cell? b = some v ∧ Below X.heap.size X W := ⟨cell_keep be h1, cell_keep be h2, be⟩
/-- Where the ways through a drawn region meet: the answer lies in a box of its own. -/
def CutW (X : World) (F : List T) (ok : Bool) (s6 s7 : Value) (wx : World) : Prop :=
 ∃ g a k, s6 = .pointer (some ⟨g, 0, none⟩) ∧ s7 = .bool ok ∧ X.heap.size ≤ g ∧ wx.cell? ⟨g, 0, none⟩ = some (.slice a F.length k) ∧ Below X.heap.size X wx ∧ Terms true X.heap.size wx.heap.size wx (.slice a F.length k) F
theorem cutW_alloc {X Y W : World} {F : List T} {ok : Bool} {a : Option Addr} {k lo : Nat} {t : TypeId} (hXY : Below X.heap.size X Y) (b : Below Y.heap.size Y W) (r : Terms true lo W.heap.size W (.slice a F.length k) F) (h : X.heap.size ≤ lo) :
  CutW X F ok (.pointer (some ⟨W.heap.size, 0, none⟩)) (.bool ok) (W.alloc (.cells #[.slice a F.length k] t)) := by
 have b' := hXY.trans (b.mono hXY.size)
 have a1 : Below W.heap.size W (W.alloc (.cells #[.slice a F.length k] t)) := Below.alloc (Below.refl _ _) (Nat.le_refl _) _
 exact ⟨_, _, _, rfl, rfl, b'.size, by simp, Below.alloc b' b'.size _, (r.keep a1 (Nat.le_refl _)).mono h (by simp)⟩
theorem cutW_set {X Y W : World} {F : List T} {ok : Bool} {a : Option Addr} {k lo R : Nat} (hXY : Below X.heap.size X Y) (b : Below Y.heap.size Y W) (r : Terms true lo W.heap.size W (.slice a F.length k) F) (hR : R < lo) (h : X.heap.size ≤ R) (hs : (W.cell? ⟨R, 0, none⟩).isSome = true) :
  CutW X F ok (.pointer (some ⟨R, 0, none⟩)) (.bool ok) (W.setCell ⟨R, 0, none⟩ (.slice a F.length k)) := by
 have b' := hXY.trans (b.mono hXY.size)
 exact ⟨_, _, _, rfl, rfl, h, World.cell?_setCell_same' _ _ _ hs, Below.setCell b' h _, r.stored hR (by omega)⟩
end Go.Proofs.YthipgpbapdambaaGreat.L
