/- What hints tell: the program's rules, through their interface. -/
import Derived.Test.YthipgpbapdambaaGreatKnown
import Derived.Test.YthipgpbapdambaaGreatB21
import Derived.Test.YthipgpbapdambaaGreatB8
import Derived.Lib.RabinKarpLaws
namespace Go.Proofs.YthipgpbapdambaaGreat.L
open Go.RowKit Go.Proofs.YthipgpbapdambaaGreat.S
set_option linter.unusedVariables false
set_option linter.unusedSimpArgs false

theorem bit_oneR {a : Int} (h0 : 0 ≤ a) (h1 : a < 9223372036854775808) : bits BinOp.and IntKind.i64 a 1 = a % 2 := by
 obtain ⟨n, rfl⟩ : ∃ n : Nat, a = (n : Int) := ⟨a.toNat, by omega⟩
 have h := Go.Proofs.and_one n (by omega)
 omega
theorem inv_mul (v : Value) (u : Value) (w : World) : Sem.run Tryz.prog (method 331 141 (.agg #[v, u]) "loop.example/g00543/impl.value") w = .ok (153, .agg #[v, u]) w := by kernel_rfl
theorem inv_bit (v : Value) (u : Value) (w : World) : Sem.run Tryz.prog (method 331 143 (.agg #[v, u]) "loop.example/g00543/impl.value") w = .ok (154, .agg #[v, u]) w := by kernel_rfl
theorem inv_inv (v : Value) (u : Value) (w : World) : Sem.run Tryz.prog (method 331 145 (.agg #[v, u]) "loop.example/g00543/impl.value") w = .ok (155, .agg #[v, u]) w := by kernel_rfl
theorem inv_quo (v : Value) (u : Value) (w : World) : Sem.run Tryz.prog (method 331 146 (.agg #[v, u]) "loop.example/g00543/impl.value") w = .ok (185, .agg #[v, u]) w := by kernel_rfl

set_option maxRecDepth 100000 in
set_option maxHeartbeats 1600000 in
theorem mulRule_any (o l h va vb) (a b : List T) (lim : Nat) (v : Value) (xs : List Int) (w : World) (ta : Terms o l h w va a) (tb : Terms o l h w vb b) (hw : h ≤ w.heap.size) (ti : Ints lim w v xs) (hl : lim ≤ w.heap.size) (ha : isAsg xs = true) (ga : linW xs.length a = true) (gb : linW xs.length b = true) :
  Calls Tryz.prog 153 #[.agg #[va, vb], v] w fun e w' => e = .returned (.int .i64 (lval xs a * lval xs b % 2147483647)) ∧ Below w.heap.size w w' := by
 obtain ⟨aa, ka, rfl, laa, baa⟩ := ta.shape
 obtain ⟨ab, kb, rfl, lab, bab⟩ := tb.shape
 obtain ⟨ai, ki, rfl, lai, bai⟩ := ti.shape
 have HA := Lib.hid ha
 have HGA := Lib.hid ga
 have HGB := Lib.hid gb
 obtain ⟨p0, p1⟩ := lval_bd xs a
 obtain ⟨q0, q1⟩ := lval_bd xs b
 clear ha ga gb
 go_enter Tryz.func153, Tryz.ntmps153
 go_wp2_with fail
 refine name_wp fun w1 hw1 => ?_
 have e1 : Below w.heap.size w w1 := by rw [hw1]; (repeat (with_reducible first | exact bR _ _ | assumption | refine bD ?_ | refine bN ?_ _ | refine bA ?_ _ | refine bS ?_ _))
 have z1 : w.heap.size + 1 ≤ w1.heap.size := by rw [hw1]; simp
 have ca1 : w1.cell? ⟨w.heap.size, 0, none⟩ = some (.slice aa a.length ka) := by rw [hw1]; first | (simp; done) | go_simp
 have cb1 : w1.cell? ⟨w.heap.size, 1, none⟩ = some (.slice ab b.length kb) := by rw [hw1]; first | (simp; done) | go_simp
 clear hw1
 have dd : Below w1.heap.size w1 w1.drew := (Below.refl _ _).drew
 have zd : w1.heap.size ≤ w1.drew.heap.size := Nat.le_refl _
 have ze : w1.drew.heap.size ≤ w1.heap.size := Nat.le_refl _
 have e1d := e1.trans (dd.mono (by omega))
 have ga : w1.drew.cell? ⟨w.heap.size, 0, none⟩ = some (.slice aa a.length ka) := cell_keep dd ca1
 have gb : w1.drew.cell? ⟨w.heap.size, 1, none⟩ = some (.slice ab b.length kb) := cell_keep dd cb1
 have ua := ta.keep e1d hw
 have ub := tb.keep e1d hw
 have ui := ti.keep e1d hl
 clear ca1 cb1 ta tb ti
 go_region_held3 (fun w' => w'.cell? ⟨w.heap.size, 0, none⟩ = some (.slice aa a.length ka) ∧ w'.cell? ⟨w.heap.size, 1, none⟩ = some (.slice ab b.length kb)) (first | exact ⟨ga, gb⟩ | exact ⟨cell_keep j1 ga, cell_keep j1 gb⟩ | exact ⟨cell_keep j2 (cell_keep j1 ga), cell_keep j2 (cell_keep j1 gb)⟩)
  (first
   | (go_at_call_of 102 (Value.agg #[Value.slice aa a.length ka]); refine (valueFor_any o l h _ a lim _ xs w1.drew ua (by omega) ui (by omega) HA.out HGA.out).mono ?_; rintro e v1 ⟨rfl, j1⟩; have s1 := j1.size)
   | (go_at_call_of 102 (Value.agg #[Value.slice ab b.length kb]); refine (valueFor_any o l h _ b lim _ xs v1 (ub.keep j1 (by omega)) (by omega) (ui.keep j1 (by omega)) (by omega) HA.out HGB.out).mono ?_; rintro e v2 ⟨rfl, j2⟩; have s2 := j2.size)
   | (go_at_call 104; refine (times_any (lval xs a) (lval xs b) v2 p0 p1 q0 q1).mono ?_; rintro e v2' ⟨rfl, rfl⟩))
 have bz : Below w.heap.size w v2 := (e1d.trans (j1.mono (by omega))).trans (j2.mono (by omega))
 go_wp2_with fail
 go_ret
 exact ⟨rfl, bz⟩

set_option maxRecDepth 100000 in
set_option maxHeartbeats 1600000 in
theorem bitRule_any (o l h va) (a : List T) (k : Nat) (hk : k ≤ 30) (lim : Nat) (v : Value) (xs : List Int) (w : World) (ta : Terms o l h w va a) (hw : h ≤ w.heap.size) (ti : Ints lim w v xs) (hl : lim ≤ w.heap.size) (ha : isAsg xs = true) (ga : linW xs.length a = true) :
  Calls Tryz.prog 154 #[.agg #[va, .int .i64 k], v] w fun e w' => e = .returned (.int .i64 (lval xs a / 2 ^ k % 2)) ∧ Below w.heap.size w w' := by
 obtain ⟨aa, ka, rfl, laa, baa⟩ := ta.shape
 obtain ⟨ai, ki, rfl, lai, bai⟩ := ti.shape
 have HA := Lib.hid ha
 have HGA := Lib.hid ga
 obtain ⟨A, hA⟩ : ∃ A, lval xs a = A := ⟨_, rfl⟩
 have p01 := lval_bd xs a
 rw [hA] at p01
 obtain ⟨p0, p1⟩ := p01
 have hp : 0 ≤ A / 2 ^ k ∧ A / 2 ^ k ≤ A := ⟨Int.ediv_nonneg p0 (Int.le_of_lt (Int.pow_pos (by omega))), Int.ediv_le_self _ p0⟩
 have hb : bits BinOp.and IntKind.i64 (A / 2 ^ min k 64) 1 = A / 2 ^ k % 2 := by rw [Nat.min_eq_left (by omega)]; exact bit_oneR hp.1 (by omega)
 have hb2 : bits BinOp.and IntKind.i64 (A / 2 ^ k) 1 = A / 2 ^ k % 2 := bit_oneR hp.1 (by omega)
 have hk64 : k < 64 := by omega
 have VF := fun (w : World) t1 h1 t2 h2 => valueFor_any o l h (.slice aa a.length ka) a lim (.slice ai xs.length ki) xs w t1 h1 t2 h2 HA.out HGA.out
 rw [hA] at VF
 have HVF := Lib.hid VF
 rw [hA]
 clear ha ga VF hA
 go_enter Tryz.func154, Tryz.ntmps154
 go_wp2_with fail
 refine name_wp fun w1 hw1 => ?_
 have e1 : Below w.heap.size w w1 := by rw [hw1]; (repeat (with_reducible first | exact bR _ _ | assumption | refine bD ?_ | refine bN ?_ _ | refine bA ?_ _ | refine bS ?_ _))
 have z1 : w.heap.size + 1 ≤ w1.heap.size := by rw [hw1]; simp
 have ca1 : w1.cell? ⟨w.heap.size, 0, none⟩ = some (.slice aa a.length ka) := by rw [hw1]; first | (simp; done) | go_simp
 have cb1 : w1.cell? ⟨w.heap.size, 1, none⟩ = some (.int .i64 k) := by rw [hw1]; first | (simp; done) | go_simp
 clear hw1
 have dd : Below w1.heap.size w1 w1.drew := (Below.refl _ _).drew
 have zd : w1.heap.size ≤ w1.drew.heap.size := Nat.le_refl _
 have ze : w1.drew.heap.size ≤ w1.heap.size := Nat.le_refl _
 have e1d := e1.trans (dd.mono (by omega))
 have ga : w1.drew.cell? ⟨w.heap.size, 0, none⟩ = some (.slice aa a.length ka) := cell_keep dd ca1
 have gb : w1.drew.cell? ⟨w.heap.size, 1, none⟩ = some (.int .i64 k) := cell_keep dd cb1
 have ua := ta.keep e1d hw
 have ui := ti.keep e1d hl
 clear ca1 cb1 ta ti
 go_region_held3 (fun w' => w'.cell? ⟨w.heap.size, 0, none⟩ = some (.slice aa a.length ka) ∧ w'.cell? ⟨w.heap.size, 1, none⟩ = some (.int .i64 k)) (first | exact ⟨ga, gb⟩ | exact ⟨cell_keep j1 ga, cell_keep j1 gb⟩)
  (first
   | (go_at_call 102; refine (HVF.out w1.drew ua (by omega) ui (by omega)).mono ?_; rintro e v1 ⟨rfl, j1⟩; have s1 := j1.size))
 have bz : Below w.heap.size w v1 := e1d.trans (j1.mono (by omega))
 go_wp2_with fail
 go_ret
 exact ⟨rfl, bz⟩

set_option maxRecDepth 100000 in
set_option maxHeartbeats 1600000 in
theorem invRule_any (g : Nat) (o l h va) (a : List T) (lim : Nat) (v : Value) (xs : List Int) (w : World) (K : Known g w) (ta : Terms o l h w va a) (hw : h ≤ w.heap.size) (ti : Ints lim w v xs) (hl : lim ≤ w.heap.size) (ha : isAsg xs = true) (ga : linW xs.length a = true) :
  Calls Tryz.prog 155 #[.agg #[va, .pointer (some ⟨g, 0, none⟩)], v] w fun e w' => e = .returned (.int .i64 (M.pw (lval xs a) 2147483645)) ∧ Known g w' ∧ OnlyF (fun q => q = g) w w' := by
 obtain ⟨aa, ka, rfl, laa, baa⟩ := ta.shape
 obtain ⟨ai, ki, rfl, lai, bai⟩ := ti.shape
 have HA := Lib.hid ha
 have HGA := Lib.hid ga
 obtain ⟨A, hA⟩ : ∃ A, lval xs a = A := ⟨_, rfl⟩
 have p01 := lval_bd xs a
 rw [hA] at p01
 obtain ⟨p0, p1⟩ := p01
 have VF := fun (w : World) t1 h1 t2 h2 => valueFor_any o l h (.slice aa a.length ka) a lim (.slice ai xs.length ki) xs w t1 h1 t2 h2 HA.out HGA.out
 rw [hA] at VF
 have HVF := Lib.hid VF
 rw [hA]
 clear ha ga VF hA
 have lg := K.1
 go_enter Tryz.func155, Tryz.ntmps155
 go_wp2_with fail
 refine name_wp fun w1 hw1 => ?_
 have e1 : Below w.heap.size w w1 := by rw [hw1]; (repeat (with_reducible first | exact bR _ _ | assumption | refine bD ?_ | refine bN ?_ _ | refine bA ?_ _ | refine bS ?_ _))
 have z1 : w.heap.size + 1 ≤ w1.heap.size := by rw [hw1]; simp
 have ca1 : w1.cell? ⟨w.heap.size, 0, none⟩ = some (.slice aa a.length ka) := by rw [hw1]; first | (simp; done) | go_simp
 have cb1 : w1.cell? ⟨w.heap.size, 1, none⟩ = some (.pointer (some ⟨g, 0, none⟩)) := by rw [hw1]; first | (simp; done) | go_simp
 clear hw1
 have dd : Below w1.heap.size w1 w1.drew := (Below.refl _ _).drew
 have zd : w1.heap.size ≤ w1.drew.heap.size := Nat.le_refl _
 have ze : w1.drew.heap.size ≤ w1.heap.size := Nat.le_refl _
 have e1d := e1.trans (dd.mono (by omega))
 have ga : w1.drew.cell? ⟨w.heap.size, 0, none⟩ = some (.slice aa a.length ka) := cell_keep dd ca1
 have gb : w1.drew.cell? ⟨w.heap.size, 1, none⟩ = some (.pointer (some ⟨g, 0, none⟩)) := cell_keep dd cb1
 have ua := ta.keep e1d hw
 have ui := ti.keep e1d hl
 have KD := K.keep e1d
 clear ca1 cb1 ta ti K
 have ng : ¬ w.heap.size = g := by omega
 go_region_held3 (fun w' => w'.cell? ⟨w.heap.size, 0, none⟩ = some (.slice aa a.length ka) ∧ w'.cell? ⟨w.heap.size, 1, none⟩ = some (.pointer (some ⟨g, 0, none⟩))) (first | exact ⟨ga, gb⟩ | exact ⟨cell_keep j1 ga, cell_keep j1 gb⟩ | exact ⟨(on2.cell (by omega) ng 0).trans (cell_keep j1 ga), (on2.cell (by omega) ng 1).trans (cell_keep j1 gb)⟩)
  (first
   | (go_at_call 102; refine (HVF.out w1.drew ua (by omega) ui (by omega)).mono ?_; rintro e v1 ⟨rfl, j1⟩; have s1 := j1.size)
   | (go_at_call 151; refine (known_of g A p0 p1 v1 (KD.keep j1)).mono ?_; rintro e v2 ⟨rfl, K2, on2⟩; have s2 := on2.size))
 have HK2 := Lib.hid K2
 have HON := Lib.hid ((OnlyF.of_below (e1d.trans (j1.mono (by omega)))).trans on2)
 clear K2 on2
 go_wp2_with fail
 go_ret
 exact ⟨rfl, HK2.out, HON.out⟩

set_option maxRecDepth 100000 in
set_option maxHeartbeats 1600000 in
theorem quoRule_any (o l h va vb) (a b : List T) (lim : Nat) (v : Value) (xs : List Int) (w : World) (ta : Terms o l h w va a) (tb : Terms o l h w vb b) (hw : h ≤ w.heap.size) (ti : Ints lim w v xs) (hl : lim ≤ w.heap.size) (ha : isAsg xs = true) (ga : linW xs.length a = true) (gb : linW xs.length b = true) :
  Calls Tryz.prog 185 #[.agg #[va, vb], v] w fun e w' => e = .returned (.int .i64 (if lval xs b = 0 then 0 else lval xs a / lval xs b)) ∧ Below w.heap.size w w' := by
 obtain ⟨aa, ka, rfl, laa, baa⟩ := ta.shape
 obtain ⟨ab, kb, rfl, lab, bab⟩ := tb.shape
 obtain ⟨ai, ki, rfl, lai, bai⟩ := ti.shape
 have HA := Lib.hid ha
 have HGA := Lib.hid ga
 have HGB := Lib.hid gb
 obtain ⟨A, hA⟩ : ∃ A, lval xs a = A := ⟨_, rfl⟩
 obtain ⟨B, hB⟩ : ∃ B, lval xs b = B := ⟨_, rfl⟩
 have p01 := lval_bd xs a
 have q01 := lval_bd xs b
 rw [hA] at p01
 rw [hB] at q01
 obtain ⟨p0, p1⟩ := p01
 obtain ⟨q0, q1⟩ := q01
 have VF := fun (w : World) t1 h1 t2 h2 => valueFor_any o l h (.slice aa a.length ka) a lim (.slice ai xs.length ki) xs w t1 h1 t2 h2 HA.out HGA.out
 have VG := fun (w : World) t1 h1 t2 h2 => valueFor_any o l h (.slice ab b.length kb) b lim (.slice ai xs.length ki) xs w t1 h1 t2 h2 HA.out HGB.out
 rw [hA] at VF
 rw [hB] at VG
 have HVF := Lib.hid VF
 have HVG := Lib.hid VG
 rw [hA, hB]
 clear ha ga gb VF VG hA hB
 go_enter Tryz.func185, Tryz.ntmps185
 go_wp2_with fail
 refine name_call fun w1 hw1 => ?_
 have e1 : Below w.heap.size w w1 := by rw [hw1]; (repeat (with_reducible first | exact bR _ _ | assumption | refine bD ?_ | refine bN ?_ _ | refine bA ?_ _ | refine bS ?_ _))
 have z1 : w.heap.size + 1 ≤ w1.heap.size := by rw [hw1]; simp
 have ca1 : w1.cell? ⟨w.heap.size, 0, none⟩ = some (.slice aa a.length ka) := by rw [hw1]; first | (simp; done) | go_simp
 clear hw1
 have ua := ta.keep e1 hw
 have ub := tb.keep e1 hw
 have ui := ti.keep e1 hl
 clear ta tb ti
 refine (HVG.out w1 ub (by omega) ui (by omega)).mono ?_; rintro e w2 ⟨rfl, j1⟩
 have s1 := j1.size
 have ca2 := cell_keep j1 ca1
 have b2 := e1.trans (j1.mono (by omega))
 have ua2 := ua.keep j1 (by omega)
 have ui2 := ui.keep j1 (by omega)
 clear ca1 ua ub ui
 by_cases h0 : B = 0
 ·subst h0
  go_wp2_with fail
  go_ret
  exact ⟨rfl, b2⟩
 ·have hd : 0 ≤ A / B ∧ A / B ≤ A := ⟨Int.ediv_nonneg p0 q0, Int.ediv_le_self _ p0⟩
  have ht : A.tdiv B = A / B := Int.tdiv_eq_ediv_of_nonneg p0
  have hbf : (B == 0) = false := by simp [h0]
  go_wp2_with fail
  refine (HVF.out w2 ua2 (by omega) ui2 (by omega)).mono ?_; rintro e w3 ⟨rfl, j2⟩
  have b3 := b2.trans (j2.mono (by omega))
  go_wp2_with fail
  go_ret
  exact ⟨rfl, b3⟩
end Go.Proofs.YthipgpbapdambaaGreat.L
