/- B21: SolveP SolveT SolveA SolveB -/
import Derived.Test.YthipgpbapdambaaGreatB9
import Derived.Lib.RabinKarpLaws
import Derived.Test.YthipgpbapdambaaGreatB5
import Derived.Test.YthipgpbapdambaaGreatB3
import Derived.Test.YthipgpbapdambaaGreatB20
set_option linter.unusedVariables false
set_option linter.unusedSimpArgs false
/- What hints tell, and what solves a system: the pure part (for spec.Solve, and for the laws that ask what is told). -/
namespace Go.Proofs.YthipgpbapdambaaGreat.L
open Go.RowKit Go.Proofs.YthipgpbapdambaaGreat.S
set_option linter.unusedVariables false
set_option linter.unusedSimpArgs false

/-- What a hint tells of the values so far. -/
def toldV (xs : List Int) (h : HintC) : Int :=
 if h.kind = 0 then lval xs h.a * lval xs h.b % 2147483647
 else if h.kind = 1 then lval xs h.a / 2 ^ h.k.toNat % 2
 else if h.kind = 2 then M.pw (lval xs h.a) 2147483645
 else if lval xs h.b = 0 then 0 else lval xs h.a / lval xs h.b
theorem toldV_fl (xs : List Int) (h : HintC) : fl (toldV xs h) := by
 have ha := lval_bd xs h.a
 have hb := lval_bd xs h.b
 unfold toldV fl
 split
 ·omega
 ·split
  ·omega
  ·split
   ·exact ⟨M.pw_lo _ _, M.pw_hi _ _⟩
   ·split
    ·omega
    ·have h1 : 0 ≤ lval xs h.a / lval xs h.b := Int.ediv_nonneg ha.1 hb.1
     have h2 : lval xs h.a / lval xs h.b ≤ lval xs h.a := Int.ediv_le_self _ ha.1
     omega
def solveF : List Int → List HintC → List Int
 | xs, [] => xs
 | xs, h :: r => solveF (xs ++ [toldV xs h]) r
/-- What solves a system, if anything does. -/
def solveL (s : SysC) (ins : List Int) : List Int := solveF (1 :: ins) s.hints
theorem solveF_len : ∀ (hs : List HintC) (xs : List Int), (solveF xs hs).length = xs.length + hs.length := by
 intro hs
 induction hs with
 | nil => intro xs; rfl
 | cons h r ih => intro xs; rw [solveF, ih]; simp; omega
theorem solveL_len (s : SysC) (ins : List Int) : (solveL s ins).length = 1 + ins.length + s.hints.length := by unfold solveL; rw [solveF_len]; simp; omega
theorem asg_snoc {xs : List Int} {v : Int} (h : isAsg xs = true) (hv : fl v) (hl : xs.length + 1 ≤ 3000) : isAsg (xs ++ [v]) = true := by
 obtain ⟨h1, h2, h3, h4⟩ := of_decide_eq_true h
 refine decide_eq_true ⟨by simp, by simpa using hl, by rw [List.getElem?_append_left (by omega)]; exact h3, fun x hx => ?_⟩
 rcases List.mem_append.1 hx with q | q
 ·exact h4 x q
 ·rw [List.mem_singleton] at q; subst q; exact hv
theorem asg_start {ins : List Int} (h : ∀ x ∈ ins, fl x) (hl : ins.length + 1 ≤ 3000) : isAsg (1 :: ins) = true := by
 refine decide_eq_true ⟨by simp, by simpa using hl, rfl, fun x hx => ?_⟩
 rcases List.mem_cons.1 hx with q | q
 ·subst q; unfold fl; omega
 ·exact h x q
theorem solveF_asg : ∀ (hs : List HintC) (xs : List Int), isAsg xs = true → xs.length + hs.length ≤ 3000 → isAsg (solveF xs hs) = true := by
 intro hs
 induction hs with
 | nil => intro xs h _; exact h
 | cons h r ih =>
  intro xs hx hl
  have hl' : xs.length + (r.length + 1) ≤ 3000 := hl
  exact ih _ (asg_snoc hx (toldV_fl xs h) (by omega)) (by simp; omega)
/-- What is there stays there. -/
theorem solveF_at : ∀ (hs : List HintC) (xs : List Int) (i : Nat), i < xs.length → (solveF xs hs)[i]? = xs[i]? := by
 intro hs
 induction hs with
 | nil => intro xs i _; rfl
 | cons h r ih => intro xs i hi; rw [solveF, ih _ i (by simp; omega), List.getElem?_append_left hi]
theorem solveF_snoc : ∀ (hs : List HintC) (h : HintC) (xs : List Int), solveF xs (hs ++ [h]) = solveF xs hs ++ [toldV (solveF xs hs) h] := by
 intro hs
 induction hs with
 | nil => intro h xs; rfl
 | cons k r ih => intro h xs; rw [List.cons_append, solveF, ih]; rfl
theorem solveF_append : ∀ (hs ks : List HintC) (xs : List Int), solveF xs (hs ++ ks) = solveF (solveF xs hs) ks := by
 intro hs
 induction hs with
 | nil => intro ks xs; rfl
 | cons k r ih => intro ks xs; rw [List.cons_append, solveF, ih]; rfl
/-- The round of the loop. -/
theorem solveF_take {hs : List HintC} {xs : List Int} {k : Nat} (hk : k < hs.length) : solveF xs (hs.take (k + 1)) = solveF xs (hs.take k) ++ [toldV (solveF xs (hs.take k)) hs[k]] := by
 rw [← solveF_snoc, List.take_succ_eq_append_getElem hk]
/-- A product is 0 only if a factor is. -/
theorem zero_prod {a b : Int} (ha : fl a) (hb : fl b) (h : a * b % 2147483647 = 0) : a = 0 ∨ b = 0 := by
 unfold fl at ha hb
 by_cases h0 : a = 0
 ·exact .inl h0
 ·have hi := M.pw_inv a (by rw [Int.emod_eq_of_lt ha.1 ha.2]; exact h0)
  have e : b * (a * M.pw a 2147483645) % 2147483647 = a * b * M.pw a 2147483645 % 2147483647 := by rw [← Int.mul_assoc, Int.mul_comm b a]
  rw [Int.mul_emod, hi, Int.mul_emod (a * b), h] at e
  simp at e
  omega
/-- A bit is 0 or 1. -/
theorem bit_iff {a : Int} (ha : fl a) : a * ((a + 2147483646) % 2147483647) % 2147483647 = 0 ↔ a < 2 := by
 have hm : fl ((a + 2147483646) % 2147483647) := by unfold fl; omega
 refine ⟨fun h => ?_, fun h => ?_⟩
 ·rcases zero_prod ha hm h with h | h
  ·omega
  ·unfold fl at ha; omega
 ·unfold fl at ha
  have : a = 0 ∨ a = 1 := by omega
  rcases this with rfl | rfl <;> rfl
end Go.Proofs.YthipgpbapdambaaGreat.L

/- What a hint tells: the model's l3told. -/
namespace Go.Proofs.YthipgpbapdambaaGreat.L
open Go.RowKit Go.Proofs.YthipgpbapdambaaGreat.S
set_option linter.unusedVariables false
set_option linter.unusedSimpArgs false

theorem bit_one {a : Int} (h0 : 0 ≤ a) (h1 : a < 9223372036854775808) : bits BinOp.and IntKind.i64 a 1 = a % 2 := by
 obtain ⟨n, rfl⟩ : ∃ n : Nat, a = (n : Int) := ⟨a.toNat, by omega⟩
 have h := Go.Proofs.and_one n (by omega)
 omega
set_option maxRecDepth 100000 in
set_option maxHeartbeats 1600000 in
theorem told_spec (o l h va vb) (x : HintC) (lim : Nat) (v : Value) (xs : List Int) (w : World) (ta : Terms o l h w va x.a) (tb : Terms o l h w vb x.b) (hw : h ≤ w.heap.size) (ti : Ints lim w v xs) (hl : lim ≤ w.heap.size) (ha : isAsg xs = true) (pI : Int) (HI : Hid (pI = M.pw (lval xs x.a) 2147483645)) (hx : hintW xs.length x = true) :
  Calls Tryz.prog 82 #[.agg #[.int .i64 x.kind, va, vb, .int .i64 x.k], v] w fun e w' => e = .returned (.int .i64 (toldV xs x)) ∧ Below w.heap.size w w' := by
 obtain ⟨aa, ka, rfl, laa, baa⟩ := ta.shape
 obtain ⟨ab, kb, rfl, lab, bab⟩ := tb.shape
 obtain ⟨ai, ki, rfl, lai, bai⟩ := ti.shape
 unfold hintW at hx
 rw [Bool.and_eq_true, Bool.and_eq_true] at hx
 obtain ⟨ga, gb, gk⟩ := hx
 have HA := Lib.hid ha
 have HGA := Lib.hid ga
 have HGB := Lib.hid gb
 have gk' := of_decide_eq_true gk
 obtain ⟨p0, p1⟩ := lval_bd xs x.a
 obtain ⟨q0, q1⟩ := lval_bd xs x.b
 have HV : Hid (toldV xs x = if x.kind = 0 then lval xs x.a * lval xs x.b % 2147483647 else if x.kind = 1 then lval xs x.a / 2 ^ x.k.toNat % 2 else if x.kind = 2 then pI else if lval xs x.b = 0 then 0 else lval xs x.a / lval xs x.b) := Lib.hid (by rw [HI.out]; unfold toldV; with_reducible rfl)
 obtain ⟨kd, hkd⟩ : ∃ kd, kd = x.kind := ⟨_, rfl⟩
 obtain ⟨kk, hkk⟩ : ∃ kk, kk = x.k := ⟨_, rfl⟩
 rw [← hkd, ← hkk] at gk' HV ⊢
 clear hkd hkk ha ga gb gk
 go_enter Tryz.func82, Tryz.ntmps82
 go_wp2_with fail
 refine name_call fun w1 hw1 => ?_
 have b1 : Below w.heap.size w w1 := by rw [hw1]; (repeat (with_reducible first | exact bR _ _ | assumption | refine bD ?_ | refine bN ?_ _ | refine bA ?_ _ | refine bS ?_ _))
 have z1 : w.heap.size + 1 ≤ w1.heap.size := by rw [hw1]; simp
 have c0 : w1.cell? ⟨w.heap.size, 0, none⟩ = some (.int .i64 kd) := by rw [hw1]; first | (simp; done) | go_simp
 have c1 : w1.cell? ⟨w.heap.size, 1, none⟩ = some (.slice aa x.a.length ka) := by rw [hw1]; first | (simp; done) | go_simp
 have c2 : w1.cell? ⟨w.heap.size, 2, none⟩ = some (.slice ab x.b.length kb) := by rw [hw1]; first | (simp; done) | go_simp
 have c3 : w1.cell? ⟨w.heap.size, 3, none⟩ = some (.int .i64 kk) := by rw [hw1]; first | (simp; done) | go_simp
 have ta1 := ta.keep b1 (by omega)
 have tb1 := tb.keep b1 (by omega)
 have ti1 := ti.keep b1 (by omega)
 clear hw1
 refine (l2val_any o l h _ x.a lim _ xs w1 ta1 (by omega) ti1 (by omega) HA.out HGA.out).mono ?_; rintro e w2 ⟨rfl, f2⟩
 have z2 := f2.size
 have d0 := cell_keep f2 c0
 have d1 := cell_keep f2 c1
 have d2 := cell_keep f2 c2
 have d3 := cell_keep f2 c3
 have tb2 := tb1.keep f2 (by omega)
 have ti2 := ti1.keep f2 (by omega)
 have b2 := b1.trans (f2.mono (by omega))
 obtain ⟨A, hA⟩ : ∃ A, A = lval xs x.a := ⟨_, rfl⟩
 rw [← hA] at HV HI p0 p1 ⊢
 have l2 : w.heap.size < w2.heap.size := World.block_lt_of_cell? _ _ d0
 clear c0 c1 c2 c3 ta1 tb1 ti1 ta tb ti hA HGA
 by_cases k0 : kd = 0
 ·have HV0 : Hid (toldV xs x = A * lval xs x.b % 2147483647) := Lib.hid (by rw [HV.out, if_pos k0])
  subst k0
  clear HV
  go_wp2_with (first
   | (go_at_call 66; refine (l2val_any o l h _ x.b lim _ xs w2 tb2 (by omega) ti2 (by omega) HA.out HGB.out).mono ?_; rintro e w3 ⟨rfl, f3⟩)
   | (go_at_call 77; refine (l1mul_any A (lval xs x.b) w3 p0 p1 q0 q1).mono ?_; rintro e w4 ⟨rfl, rfl⟩))
  go_ret
  exact ⟨by rw [HV0.out]; rfl, b2.trans (f3.mono (by omega))⟩
 by_cases k1 : kd = 1
 ·have HV0 : Hid (toldV xs x = A / 2 ^ kk.toNat % 2) := Lib.hid (by rw [HV.out, if_neg k0, if_pos k1])
  subst k1
  have hk : 0 ≤ kk ∧ kk ≤ 30 := by omega
  obtain ⟨n, rfl⟩ : ∃ n : Nat, kk = (n : Int) := ⟨kk.toNat, by omega⟩
  clear HV gk'
  go_wp2_with fail
  go_ret
  refine ⟨?_, b2⟩
  rw [HV0.out]
  have hp : 0 ≤ A / 2 ^ n ∧ A / 2 ^ n ≤ A := ⟨Int.ediv_nonneg p0 (Int.le_of_lt (Int.pow_pos (by omega))), Int.ediv_le_self _ p0⟩
  rw [Int.toNat_natCast, ← bit_one hp.1 (by omega)]
  rfl
 by_cases k2 : kd = 2
 ·have HV0 : Hid (toldV xs x = pI) := Lib.hid (by rw [HV.out, if_neg k0, if_neg k1, if_pos k2])
  subst k2
  clear HV gk'
  go_wp2_with (go_at_call 111; refine (l1inv_any A _ (by omega) (by omega)).mono ?_; rw [← HI.out]; rintro e w3 ⟨rfl, rfl⟩)
  go_ret
  exact ⟨by rw [HV0.out]; rfl, b2⟩
 ·have hk : kd = 3 := by omega
  have HV0 : Hid (toldV xs x = if lval xs x.b = 0 then 0 else A / lval xs x.b) := Lib.hid (by rw [HV.out, if_neg k0, if_neg k1, if_neg k2])
  subst hk
  clear HV gk'
  go_wp2_with fail
  refine (l2val_any o l h _ x.b lim _ xs w2 tb2 (by omega) ti2 (by omega) HA.out HGB.out).mono ?_; rintro e w3 ⟨rfl, f3⟩
  have z3 := f3.size
  have b3 := b2.trans (f3.mono (by omega))
  obtain ⟨Bv, hB⟩ : ∃ Bv, Bv = lval xs x.b := ⟨_, rfl⟩
  rw [← hB] at HV0 q0 q1 ⊢
  clear hB
  by_cases b0 : Bv = 0
  ·have HV1 : Hid (toldV xs x = 0) := Lib.hid (by rw [HV0.out, if_pos b0])
   subst b0
   clear HV0
   go_wp2_with fail
   go_ret
   exact ⟨by rw [HV1.out]; rfl, b3⟩
  ·go_wp2_with fail
   go_ret
   refine ⟨?_, b3⟩
   rw [HV0.out, if_neg b0]
   rfl
end Go.Proofs.YthipgpbapdambaaGreat.L

/- What solves a system: the model's l3solve and Solve. -/
namespace Go.Proofs.YthipgpbapdambaaGreat.L
open Go.RowKit Go.Proofs.YthipgpbapdambaaGreat.S
set_option linter.unusedVariables false
set_option linter.unusedSimpArgs false

theorem hintsB_at : ∀ (hs : List HintC) (n : Int) (k : Nat) (hk : k < hs.length), hintsB n hs = true → hintW (n + k) hs[k] = true := by
 intro hs
 induction hs with
 | nil => intro n k hk; simp at hk
 | cons h r ih =>
  intro n k hk hb
  rw [hintsB, Bool.and_eq_true] at hb
  cases k with
  | zero => simpa using hb.1
  | succ k =>
   have := ih (n + 1) k (by simpa using hk) hb.2
   rw [show n + 1 + (k : Int) = n + ((k + 1 : Nat) : Int) from by omega] at this
   simpa using this
theorem sysOk_hint_at {s : SysC} (h : sysOk s = true) {k : Nat} (hk : k < s.hints.length) : hintW (1 + s.ins + k) s.hints[k] = true := by
 unfold sysOk at h
 rw [Bool.and_eq_true, Bool.and_eq_true] at h
 exact hintsB_at _ _ k hk h.2.1
def iv2 (xs : List Int) : List Value := xs.map (Value.int .i64)
theorem iv2_len (xs : List Int) : (iv2 xs).length = xs.length * 1 := by simp [iv2]
theorem iv2_one (xs : List Int) : ∀ u ∈ iv2 xs, u.oneCell' = true := by
 intro u hu
 obtain ⟨x, _, rfl⟩ := List.mem_map.1 hu
 rfl
theorem ints_cells2 {lim : Nat} {w : World} {a : Option Addr} {n cap : Nat} {ys : List Int} (t : Ints lim w (.slice a n cap) ys) :
  (a = none → n = 0) ∧ ∀ ad, a = some ad → ∀ j u, (iv2 ys)[j]? = some u → w.cell? (ad.add j) = some u := by
 obtain ⟨a', cap', e, h1, h2, h3, h4⟩ := t
 simp only [Value.slice.injEq] at e
 obtain ⟨rfl, rfl, rfl⟩ := e
 rcases h4 with h4 | ⟨b, off, rfl, hlt, hc⟩
 ·subst h4
  exact ⟨fun _ => rfl, fun ad _ j u hj => by simp [iv2] at hj⟩
 ·refine ⟨(fun q => by cases q), fun ad q j u hj => ?_⟩
  simp only [Option.some.injEq] at q
  subst q
  rw [Go.WideShapes.add_plain]
  unfold iv2 at hj
  rw [List.getElem?_map] at hj
  cases hx : ys[j]? with
  | none => rw [hx] at hj; simp at hj
  | some x => rw [hx] at hj; simp at hj; subst hj; exact hc j x hx
theorem asg_fit2 {xs : List Int} (h : isAsg xs = true) : ∀ x ∈ xs, Fits x := fun x hx => by
 have := (of_decide_eq_true h).2.2.2 x hx
 unfold fl at this; unfold Fits; omega

set_option maxRecDepth 100000 in
set_option maxHeartbeats 6400000 in
theorem l3solve_any (o l h vi vo vh vc) (s : SysC) (lim : Nat) (v : Value) (xs : List Int) (w : World) (t : SysR o l h w vi vo vh vc s) (hw : h ≤ w.heap.size) (ti : Ints lim w v xs) (hl : lim ≤ w.heap.size) (ok : sysOk s = true) (hn : (xs.length : Int) = s.ins) (hf : ∀ x ∈ xs, fl x) :
  Calls Tryz.prog 38 #[.agg #[vi, vo, vh, vc], v] w fun e w' => ∃ u, e = .returned u ∧ Below w.heap.size w w' ∧ Nums true w.heap.size w'.heap.size w' u (solveL s xs) := by
 obtain ⟨tO, tH, tC⟩ := t.parts
 obtain ⟨ao, ko, ah, kh, ac, kc, rfl, rfl, rfl, rfl, lo, bo, lh, bh, lc, bc, fi⟩ := t.shape
 obtain ⟨ai, ki, rfl, lai, bai⟩ := ti.shape
 obtain ⟨i0, hi0, hz0, hz1, hz2⟩ := info_parts intInfo
 obtain ⟨s0, s1, s2, s3, s4⟩ := limB_facts (sysOk_limB ok)
 have hx100 : xs.length ≤ 100 := by omega
 have hh3 : s.hints.length ≤ 3000 := by omega
 have HN := Lib.hid hn
 have OK := Lib.hid ok
 have A0 := Lib.hid (asg_start hf (by omega))
 have AK := Lib.hid fun (k : Nat) (hk : k ≤ s.hints.length) => show isAsg (solveF (1 :: xs) (s.hints.take k)) = true from solveF_asg _ _ A0.out (by rw [List.length_take]; simp; have := HN.out; omega)
 have LK := Lib.hid fun (k : Nat) (hk : k ≤ s.hints.length) => show (solveF (1 :: xs) (s.hints.take k)).length = xs.length + 1 + k from by rw [solveF_len, List.length_take, Nat.min_eq_left hk]; simp
 clear hn ok
 go_enter Tryz.func38, Tryz.ntmps38
 go_wp2_with (at_builtin; refine name_list ?_)
 intro W hW
 have b1 : Below w.heap.size w W := by rw [hW]; (repeat (with_reducible first | exact bR _ _ | assumption | refine bD ?_ | refine bN ?_ _ | refine bA ?_ _ | refine bS ?_ _))
 have z1 : w.heap.size + 2 ≤ W.heap.size := by rw [hW]; simp
 have cI : W.cell? ⟨w.heap.size, 0, none⟩ = some (.int .i64 s.ins) := by rw [hW]; first | (simp; done) | go_simp
 have cO : W.cell? ⟨w.heap.size, 1, none⟩ = some (.slice ao s.outs.length ko) := by rw [hW]; first | (simp; done) | go_simp
 have cH : W.cell? ⟨w.heap.size, 2, none⟩ = some (.slice ah s.hints.length kh) := by rw [hW]; first | (simp; done) | go_simp
 have cC : W.cell? ⟨w.heap.size, 3, none⟩ = some (.slice ac s.cons.length kc) := by rw [hW]; first | (simp; done) | go_simp
 have C := Lib.hid (ints_cells2 (ti.keep b1 hl))
 have row0 : W.ownsRow (w.heap.size + 1) 3 1 (.slice (some ⟨w.heap.size + 1, 0, none⟩) 1 1) 1 [.int .i64 1] := by
  rw [hW]
  have q := World.ownsRow_lit (base := w.heap.size + 1) (size := 1) (e := 3) (w.alloc (.cells #[.int .i64 s.ins, .slice ao s.outs.length ko, .slice ah s.hints.length kh, .slice ac s.cons.length kc] 35)) #[.int .i64 1] 1 (by simp) (by unfold maxLen; omega) rfl
  simpa using q
 have z1' : w.heap.size + 1 ≤ W.heap.size := by omega
 have A1 : 1 + xs.length ≤ maxLen := by unfold maxLen; omega
 have A2 : (1 + xs.length) * 8 ≤ 140737488355328 := by omega
 clear hW
 go_wp2_with (at_builtin; refine wpList_append_spread _ rfl _ _ 27 rfl (w.heap.size + 1) 3 i0 (.int .i64 0) 1 8 Tryz.underlying27 hi0 hz0 hz1 hz2 rfl (by decide) (.slice (some ⟨w.heap.size + 1, 0, none⟩) 1 1) 1 [.int .i64 1] rfl row0 _ _ _ (iv2 xs) rfl (iv2_len xs) C.out.1 C.out.2 (iv2_one xs) A1 A2 z1' ?_; rintro v' w5 ⟨hown, hgrow, -⟩; obtain ⟨a', cap', rfl⟩ := own_slice hown; have e5 : Below (w.heap.size + 1) W w5 := below_grown (row := some (w.heap.size + 1)) hgrow z1' (fun k e => by simp at e; omega))
 have b5 : Below w.heap.size w w5 := b1.trans (e5.mono (by omega))
 have z5 : w.heap.size + 1 ≤ w5.heap.size := Nat.le_trans z1' e5.size
 have kI := (e5.cell (p := ⟨w.heap.size, 0, none⟩) (Nat.lt_succ_self _)).trans cI
 have kO := (e5.cell (p := ⟨w.heap.size, 1, none⟩) (Nat.lt_succ_self _)).trans cO
 have kH := (e5.cell (p := ⟨w.heap.size, 2, none⟩) (Nat.lt_succ_self _)).trans cH
 have kC := (e5.cell (p := ⟨w.heap.size, 3, none⟩) (Nat.lt_succ_self _)).trans cC
 have hown0 : w5.ownsRow (w.heap.size + 1) 3 1 (.slice a' (1 + xs.length) cap') (solveF (1 :: xs) (s.hints.take 0)).length ((solveF (1 :: xs) (s.hints.take 0)).map (Value.int .i64)) := by
  have h := hown
  rw [show (solveF (1 :: xs) (s.hints.take 0)).length = 1 + xs.length from by rw [show solveF (1 :: xs) (s.hints.take 0) = 1 :: xs from rfl, List.length_cons]; omega]
  exact h
 clear hown hgrow row0 C e5 cI cO cH cC b1
 go_wp2_with fail
 go_loopw [5, 6] (fun v i wr => ∃ k : Nat, k ≤ s.hints.length ∧ i = .int .i64 k ∧ Below w.heap.size w wr ∧ w.heap.size + 1 ≤ wr.heap.size ∧ wr.cell? ⟨w.heap.size, 0, none⟩ = some (.int .i64 s.ins) ∧ wr.cell? ⟨w.heap.size, 1, none⟩ = some (.slice ao s.outs.length ko) ∧ wr.cell? ⟨w.heap.size, 2, none⟩ = some (.slice ah s.hints.length kh) ∧ wr.cell? ⟨w.heap.size, 3, none⟩ = some (.slice ac s.cons.length kc) ∧ wr.ownsRow (w.heap.size + 1) 3 1 v (solveF (1 :: xs) (s.hints.take k)).length ((solveF (1 :: xs) (s.hints.take k)).map (Value.int .i64))) (fun _ i _ => s.hints.length - (intOf i).toNat)
 case atStart => exact ⟨0, Nat.zero_le _, rfl, b5, z5, kI, kO, kH, kC, hown0⟩
 case round =>
  clear kI kO kH kC hown0
  obtain ⟨k, hk, rfl, be, zz, cI, cO, cH, cC, hrow⟩ := hrel
  by_cases hlt : k < s.hints.length
  ·obtain ⟨b, off, va, vb, rfl, l1, m1, c0, c1, c2, c3, f0, f3, ta, tb⟩ := (tH.keep be hw).at hlt
   obtain ⟨x, kx, rfl, lx, bx⟩ := ta.shape
   obtain ⟨y, ky, rfl, ly, by'⟩ := tb.shape
   have hLk := LK.out k hk
   have ASG := Lib.hid (AK.out k hk)
   have HW : Hid (hintW (solveF (1 :: xs) (s.hints.take k)).length s.hints[k] = true) := Lib.hid (by
    have q := sysOk_hint_at OK.out hlt
    have hn := HN.out
    rw [show ((solveF (1 :: xs) (s.hints.take k)).length : Int) = 1 + s.ins + (k : Int) from by rw [hLk]; omega]
    exact q)
   have HT : Hid ((solveF (1 :: xs) (s.hints.take (k + 1))).map (Value.int .i64) = (solveF (1 :: xs) (s.hints.take k)).map (Value.int .i64) ++ [.int .i64 (toldV (solveF (1 :: xs) (s.hints.take k)) s.hints[k])]) := Lib.hid (by rw [solveF_take hlt, List.map_append]; rfl)
   have HTL : Hid ((solveF (1 :: xs) (s.hints.take (k + 1))).length = (solveF (1 :: xs) (s.hints.take k)).length + 1) := Lib.hid (by rw [solveF_take hlt, List.length_append]; rfl)
   have hfit := asg_fit2 ASG.out
   have hL : (solveF (1 :: xs) (s.hints.take k)).length ≤ 3200 := by omega
   have TN := Nums.own hrow hfit
   have bl : b < wr.heap.size := World.block_lt_of_cell? _ _ c0
   have lcI : w.heap.size < wr.heap.size := World.block_lt_of_cell? _ _ cI
   obtain ⟨ra, rc, rfl⟩ := own_slice hrow
   clear hLk hfit
   generalize solveF (1 :: xs) (s.hints.take k) = L at *
   go_wp2_with fail
   refine name_call fun w1 hw1 => ?_
   have e1 : Below wr.heap.size wr w1 := by rw [hw1]; (repeat (with_reducible first | exact bR _ _ | assumption | refine bD ?_ | refine bN ?_ _ | refine bA ?_ _ | refine bS ?_ _))
   have cI1 := cell_keep e1 cI
   have cO1 := cell_keep e1 cO
   have cH1 := cell_keep e1 cH
   have cC1 := cell_keep e1 cC
   have tA1 := ta.keep e1 (by omega)
   have tB1 := tb.keep e1 (by omega)
   have TN1 := TN.keep e1 (Nat.le_refl _)
   have hrow1 := row_keep hrow e1
   have z1 := e1.size
   have b1 := be.trans (e1.mono (by omega))
   clear hw1 cI cO cH cC ta tb TN hrow
   refine (told_spec o l h _ _ s.hints[k] wr.heap.size _ L w1 tA1 tB1 (by omega) TN1.ints z1 ASG.out _ (Lib.hid rfl) HW.out).mono ?_; rintro e w2 ⟨rfl, f2⟩
   have z2 := f2.size
   have b2 := b1.trans (f2.mono (by omega))
   have cI2 := cell_keep f2 cI1
   have cO2 := cell_keep f2 cO1
   have cH2 := cell_keep f2 cH1
   have cC2 := cell_keep f2 cC1
   have hrow2 := row_keep hrow1 f2
   have lw : w.heap.size < w2.heap.size := World.block_lt_of_cell? _ _ cI2
   clear cI1 cO1 cH1 cC1 tA1 tB1 TN1 hrow1
   generalize toldV L s.hints[k] = y' at *
   have B1 : L.length + 1 ≤ maxLen := by unfold maxLen; omega
   have B2 : (L.length + 1) * 8 ≤ 140737488355328 := by omega
   have B3 : w.heap.size + 1 ≤ w2.heap.size := by omega
   go_wp2_with (at_builtin; refine wpList_append_own _ rfl _ _ 27 rfl (w.heap.size + 1) 3 i0 (.int .i64 0) 1 8 Tryz.underlying27 hi0 hz0 hz1 hz2 rfl (by decide) _ _ _ rfl (hrow2.alloc _) ⟨w2.heap.size, 0, none⟩ 1 1 [.int .i64 y'] rfl rfl (cell_one_new' _ _ _) (by simp [Value.oneCell']) B1 B2 (Nat.le_trans B3 (by simp)) ?_; intro v' w5 hown' hgrow _)
   have eB : Below (w.heap.size + 1) (w2.alloc (.cells #[.int .i64 y'] 3)) w5 := (Below.refl _ _).grown hgrow (Nat.le_trans B3 (by simp)) (fun j ej => (hrow2.lt j ej).1)
   have be5 : Below w.heap.size w w5 := (b2.alloc (by omega) (.cells #[.int .i64 y'] 3)).trans (eB.mono (by omega))
   have z5 := hgrow.size
   simp only [World.size_alloc] at z5
   have kI := (eB.cell (p := ⟨w.heap.size, 0, none⟩) (Nat.lt_succ_self _)).trans (alloc_keep cI2)
   have kO := (eB.cell (p := ⟨w.heap.size, 1, none⟩) (Nat.lt_succ_self _)).trans (alloc_keep cO2)
   have kH := (eB.cell (p := ⟨w.heap.size, 2, none⟩) (Nat.lt_succ_self _)).trans (alloc_keep cH2)
   have kC := (eB.cell (p := ⟨w.heap.size, 3, none⟩) (Nat.lt_succ_self _)).trans (alloc_keep cC2)
   clear cI2 cO2 cH2 cC2 hrow2
   go_roundw
   case rel => exact ⟨k + 1, by omega, by go_num, be5, by omega, kI, kO, kH, kC, by rw [HT.out, HTL.out]; exact hown'⟩
   case measure => simp [intOf]; omega
  ·obtain rfl : k = s.hints.length := by omega
   have AS := AK.out _ (Nat.le_refl _)
   rw [List.take_length] at hrow AS
   have ht := (Nums.own (ts := solveL s xs) hrow (asg_fit2 AS)).mono (l' := w.heap.size) (h' := wr.heap.size) (by omega) (Nat.le_refl _)
   have HT := Lib.hid ht
   obtain ⟨ra, rc, rfl⟩ := own_slice hrow
   clear hrow ht
   go_wp2_with fail
   go_ret
   exact ⟨_, rfl, be, HT.out⟩
end Go.Proofs.YthipgpbapdambaaGreat.L

/- What solves a system: the model's Solve. -/
namespace Go.Proofs.YthipgpbapdambaaGreat.L
open Go.RowKit Go.Proofs.YthipgpbapdambaaGreat.S
set_option linter.unusedVariables false
set_option linter.unusedSimpArgs false

def flB (x : Int) : Bool := decide (0 ≤ x ∧ x < 2147483647)
def solB (s : SysC) (xs : List Int) : Bool := sysOk s && (decide ((xs.length : Int) = s.ins) && (xs.all flB && checkB s (solveL s xs)))
def solL (s : SysC) (xs : List Int) : List Int := if solB s xs = true then solveL s xs else []
theorem solL_no {s : SysC} {xs : List Int} (h : solB s xs = false) : solL s xs = [] := by unfold solL; rw [h]; rfl
theorem solB_sys {s : SysC} {xs : List Int} (h : sysOk s = false) : solB s xs = false := by unfold solB; rw [h]; rfl
theorem solB_len {s : SysC} {xs : List Int} (h : ¬ (xs.length : Int) = s.ins) : solB s xs = false := by unfold solB; rw [decide_eq_false h]; simp
theorem solB_fl {s : SysC} {xs : List Int} {x : Int} (hx : x ∈ xs) (h : flB x = false) : solB s xs = false := by
 have : xs.all flB = false := by
  cases q : xs.all flB with
  | false => rfl
  | true => rw [List.all_eq_true] at q; rw [q x hx] at h; cases h
 unfold solB; rw [this]; simp
theorem solB_check {s : SysC} {xs : List Int} (h : checkB s (solveL s xs) = false) : solB s xs = false := by unfold solB; rw [h]; simp
theorem solB_yes {s : SysC} {xs : List Int} (h0 : sysOk s = true) (h1 : (xs.length : Int) = s.ins) (h2 : xs.all flB = true) (h3 : checkB s (solveL s xs) = true) : solB s xs = true := by
 unfold solB; rw [h0, decide_eq_true h1, h2, h3]; rfl
theorem all_take {xs : List Int} {k : Nat} {x : Int} (h : (xs.take k).all flB = true) (hx : xs[k]? = some x) (hf : flB x = true) : (xs.take (k + 1)).all flB = true := by
 rw [take_step hx, List.all_append, h]; simp [hf]
theorem all_fl {xs : List Int} (h : xs.all flB = true) : ∀ x ∈ xs, fl x := fun x hx => by
 rw [List.all_eq_true] at h
 exact of_decide_eq_true (h x hx)

set_option maxRecDepth 100000 in
set_option maxHeartbeats 6400000 in
theorem solve_spec (o l h vi vo vh vc) (s : SysC) (lim : Nat) (v : Value) (xs : List Int) (w : World) (t : SysR o l h w vi vo vh vc s) (hw : h ≤ w.heap.size) (ti : Ints lim w v xs) (hl : lim ≤ w.heap.size) (ni : xs.length ≤ 1048576) (nh : s.hints.length ≤ 1048576) (no : s.outs.length ≤ 1048576) (nc : s.cons.length ≤ 1048576) :
  Calls Tryz.prog 8 #[.agg #[vi, vo, vh, vc], v] w fun e w' => ∃ u, e = .returned (.tuple #[u, .bool (solB s xs)]) ∧ Below w.heap.size w w' ∧ Nums true w.heap.size w'.heap.size w' u (solL s xs) := by
 obtain ⟨ao, ko, ah, kh, ac, kc, rfl, rfl, rfl, rfl, lo, bo, lh, bh, lc, bc, fi⟩ := t.shape
 obtain ⟨ai, ki, rfl, lai, bai⟩ := ti.shape
 have HS := Lib.hid (sysOk_specb o l h (.int .i64 s.ins) (.slice ao s.outs.length ko) (.slice ah s.hints.length kh) (.slice ac s.cons.length kc) s)
 have hgo : ∀ b, sysOk s = b → ∀ (w1 : World), Below w.heap.size w w1 → Calls Tryz.prog 19 #[.agg #[.int .i64 s.ins, .slice ao s.outs.length ko, .slice ah s.hints.length kh, .slice ac s.cons.length kc]] w1 fun e w' => e = .returned (.bool b) ∧ Below w1.heap.size w1 w' := fun b hb w1 e1 =>
  sysOk_specb o l h _ _ _ _ s w1 (t.keep e1 hw) (Nat.le_trans hw e1.size) nh no nc b hb
 have HG := Lib.hid hgo
 clear hgo HS
 cases hk : sysOk s
 case false =>
  have E1 := Lib.hid (solB_sys (xs := xs) hk)
  have HK := Lib.hid (HG.out false hk)
  clear hk
  go_enter Tryz.func8, Tryz.ntmps8
  go_wp2_with fail
  refine name_call fun w1 hw1 => ?_
  have b1 : Below w.heap.size w w1 := by rw [hw1]; (repeat (with_reducible first | exact bR _ _ | assumption | refine bD ?_ | refine bN ?_ _ | refine bA ?_ _ | refine bS ?_ _))
  clear hw1
  refine (HK.out w1 b1).mono ?_; rintro e w2 ⟨rfl, f2⟩
  have b2 := b1.trans (f2.mono b1.size)
  go_wp2_with fail
  go_ret2
  exact ⟨_, by rw [E1.out]; rfl, b2, by rw [solL_no E1.out]; exact Nums.nil _ _ _ _⟩
 have OK := Lib.hid hk
 have HK := Lib.hid (HG.out true hk)
 clear hk HG
 by_cases hn : (xs.length : Int) = s.ins
 case' neg =>
  have E1 := Lib.hid (solB_len hn)
  have hne : ((xs.length : Int) != s.ins) = true := by simp [hn]
  go_enter Tryz.func8, Tryz.ntmps8
  go_wp2_with fail
  refine name_call fun w1 hw1 => ?_
  have b1 : Below w.heap.size w w1 := by rw [hw1]; (repeat (with_reducible first | exact bR _ _ | assumption | refine bD ?_ | refine bN ?_ _ | refine bA ?_ _ | refine bS ?_ _))
  have cI1 : w1.cell? ⟨w.heap.size, 0, none⟩ = some (.int .i64 s.ins) := by rw [hw1]; first | (simp; done) | go_simp
  clear hw1
  refine (HK.out w1 b1).mono ?_; rintro e w2 ⟨rfl, f2⟩
  have b2 := b1.trans (f2.mono b1.size)
  have cI2 := cell_keep f2 cI1
  go_wp2_with fail
  go_ret2
  exact ⟨_, by rw [E1.out]; rfl, b2, by rw [solL_no E1.out]; exact Nums.nil _ _ _ _⟩
 have hne : ((xs.length : Int) != s.ins) = false := by simp [hn]
 have HN := Lib.hid hn
 clear hn
 go_enter Tryz.func8, Tryz.ntmps8
 go_wp2_with fail
 refine name_call fun w1 hw1 => ?_
 have b1 : Below w.heap.size w w1 := by rw [hw1]; (repeat (with_reducible first | exact bR _ _ | assumption | refine bD ?_ | refine bN ?_ _ | refine bA ?_ _ | refine bS ?_ _))
 have z1 : w.heap.size + 1 ≤ w1.heap.size := by rw [hw1]; simp
 have cI1 : w1.cell? ⟨w.heap.size, 0, none⟩ = some (.int .i64 s.ins) := by rw [hw1]; first | (simp; done) | go_simp
 have cO1 : w1.cell? ⟨w.heap.size, 1, none⟩ = some (.slice ao s.outs.length ko) := by rw [hw1]; first | (simp; done) | go_simp
 have cH1 : w1.cell? ⟨w.heap.size, 2, none⟩ = some (.slice ah s.hints.length kh) := by rw [hw1]; first | (simp; done) | go_simp
 have cC1 : w1.cell? ⟨w.heap.size, 3, none⟩ = some (.slice ac s.cons.length kc) := by rw [hw1]; first | (simp; done) | go_simp
 clear hw1
 refine (HK.out w1 b1).mono ?_; rintro e w2 ⟨rfl, f2⟩
 have z2 := f2.size
 have b2 := b1.trans (f2.mono b1.size)
 have cI2 := cell_keep f2 cI1
 have cO2 := cell_keep f2 cO1
 have cH2 := cell_keep f2 cH1
 have cC2 := cell_keep f2 cC1
 have lb2 : w.heap.size < w2.heap.size := by omega
 clear cI1 cO1 cH1 cC1
 go_wp2_with fail
 go_loop [6] (fun i => ∃ k : Nat, k ≤ xs.length ∧ i = .int .i64 k ∧ (xs.take k).all flB = true) (fun i => xs.length - (intOf i).toNat)
 case atStart => exact ⟨0, Nat.zero_le _, rfl, rfl⟩
 case round =>
  obtain ⟨k, hk, rfl, hall⟩ := hrel
  have HA := Lib.hid hall
  clear hall
  by_cases hlt : k < xs.length
  ·obtain ⟨b1', o1, x, rfl, l1, c1, e1, f1⟩ := (ti.keep b2 hl).at hlt
   have FO := fok_spec x
   cases hf : flB x
   ·have E1 := Lib.hid (solB_fl (s := s) (List.mem_of_getElem? e1) hf)
    rw [show decide (0 ≤ x ∧ x < 2147483647) = false from hf] at FO
    have HF := Lib.hid FO
    clear FO hf e1
    go_wp2_with fail
    refine (HF.out _).mono ?_; rintro e w3 ⟨rfl, rfl⟩
    go_wp2_with fail
    go_ret2
    exact ⟨_, by rw [E1.out]; rfl, b2, by rw [solL_no E1.out]; exact Nums.nil _ _ _ _⟩
   ·have HN' := Lib.hid (all_take HA.out e1 hf)
    rw [show decide (0 ≤ x ∧ x < 2147483647) = true from hf] at FO
    have HF := Lib.hid FO
    clear FO hf e1
    go_wp2_with fail
    refine (HF.out _).mono ?_; rintro e w3 ⟨rfl, rfl⟩
    go_wp2_with fail
    go_round
    case rel => exact ⟨k + 1, by omega, by go_num, HN'.out⟩
    case measure => simp [intOf]; omega
  ·obtain rfl : k = xs.length := by omega
   rw [List.take_length] at HA
   have FL := all_fl HA.out
   have LSV := l3solve_any o l h _ _ _ _ s lim _ xs w2 (t.keep b2 hw) (by omega) (ti.keep b2 hl) (by omega) OK.out HN.out FL
   have HLS := Lib.hid LSV
   clear LSV FL
   go_wp2_with fail
   refine (HLS.out).mono ?_; rintro e w3 ⟨u3, rfl, f3, n3⟩
   have z3 := f3.size
   have b3 := b2.trans (f3.mono (by omega))
   have cI3 := cell_keep f3 cI2
   have cO3 := cell_keep f3 cO2
   have cH3 := cell_keep f3 cH2
   have cC3 := cell_keep f3 cC2
   have hsl : (solveL s xs).length ≤ 1048576 := by
    have := limB_facts (sysOk_limB OK.out)
    have := HN.out
    rw [solveL_len]; omega
   have CK := Lib.hid (check_spec o l h _ _ _ _ s w3.heap.size u3 (solveL s xs) w3 (t.keep b3 hw) (by omega) n3.ints (Nat.le_refl _) hsl nh no nc)
   obtain ⟨ra, rc, rfl, rl, rb⟩ := n3.shape
   have lb3 : w.heap.size < w3.heap.size := by omega
   cases hc : checkB s (solveL s xs)
   ·have E1 := Lib.hid (solB_check hc)
    rw [hc] at CK
    clear hc hsl
    go_wp2_with fail
    refine (CK.out).mono ?_; rintro e w4 ⟨rfl, f4⟩
    have b4 := b3.trans (f4.mono (by omega))
    go_wp2_with fail
    go_ret2
    exact ⟨_, by rw [E1.out]; rfl, b4, by rw [solL_no E1.out]; exact Nums.nil _ _ _ _⟩
   ·have E1 := Lib.hid (solB_yes OK.out HN.out HA.out hc)
    have E2 : Hid (solL s xs = solveL s xs) := Lib.hid (if_pos E1.out)
    rw [hc] at CK
    clear hc hsl
    go_wp2_with fail
    refine (CK.out).mono ?_; rintro e w4 ⟨rfl, f4⟩
    have b4 := b3.trans (f4.mono (by omega))
    have n4 := (n3.keep f4 (Nat.le_refl _)).mono (l' := w.heap.size) (h' := w4.heap.size) (by omega) f4.size
    have HN4 := Lib.hid n4
    clear n3 n4
    go_wp2_with fail
    go_ret2
    exact ⟨_, by rw [E1.out]; rfl, b4, by rw [E2.out]; exact HN4.out⟩
end Go.Proofs.YthipgpbapdambaaGreat.L
