/- What solves a system: the program's Solve (written by tools/gen/solvei.py). -/
import Derived.Test.YthipgpbapdambaaGreatRule
import Derived.Test.YthipgpbapdambaaGreatB21
import Derived.Test.YthipgpbapdambaaGreatB9
import Derived.Test.YthipgpbapdambaaGreatB5
import Derived.Deep.Cut
namespace Go.Proofs.YthipgpbapdambaaGreat.L
open Go.RowKit Go.Proofs.YthipgpbapdambaaGreat.S
set_option linter.unusedVariables false
set_option linter.unusedSimpArgs false

theorem solB_ofI {s : SysC} {xs : List Int} (ok : sysOk s = true) (hn : (xs.length : Int) = s.ins) (hf : ∀ x ∈ xs, fl x) : solB s xs = allB (solveL s xs) s.cons := by
 have lim := limB_facts (sysOk_limB ok)
 have hl : xs.length + 1 ≤ 3000 := by omega
 have ha : isAsg (solveL s xs) = true := solveF_asg _ _ (asg_start hf hl) (by simp; omega)
 have hv : ((solveL s xs).length : Int) = varsN s := by rw [solveL_len]; unfold varsN; omega
 have h2 : xs.all flB = true := List.all_eq_true.2 fun x hx => decide_eq_true (hf x hx)
 unfold solB checkB
 rw [ok, decide_eq_true hn, h2, ha, decide_eq_true hv]
 simp
theorem asg_no {xs : List Int} (h : xs.all flB = false) : isAsg (1 :: xs) = false := by
 cases q : isAsg (1 :: xs) with
 | false => rfl
 | true =>
  have h2 : xs.all flB = true := List.all_eq_true.2 fun x hx => decide_eq_true ((of_decide_eq_true q).2.2.2 x (List.mem_cons_of_mem _ hx))
  rw [h] at h2; cases h2
theorem Known.grown {g : Nat} {w w' : World} {row : Option Nat} (h : Known g w) (hg : w.grownBy w' row) (hne : row ≠ some g) : Known g w' := by
 have e : w'.heap[g]? = w.heap[g]? := hg.block g h.1 (fun q => hne q.symm)
 exact ⟨Nat.lt_of_lt_of_le h.1 hg.size, fun k hk => (h.2.1 k hk).same fun j => World.cell?_of_block (a := ⟨g, j, none⟩) e, fun j => (World.frozen?_of_block (a := ⟨g, j, none⟩) e).trans (h.2.2 j)⟩
theorem grown_of_onlyF {g : Nat} {w w' : World} (h : OnlyF (fun q => q = g) w w') : w.grownBy w' (some g) := ⟨h.os, h.tape, h.output, h.size, fun i hi hn => h.block i hi (fun e => hn (by rw [e]))⟩
/-- What was made for the inverses: none is kept. -/
theorem known_new (w : World) (W : World) (hW : W = w.alloc (.cells Tryz.zeroCells90 90)) : Known w.heap.size W := by
 subst hW
 refine ⟨by simp, fun k hk => .inl ?_, fun j => World.frozen?_alloc_at _ _ _ _ rfl⟩
 obtain ⟨d0, d1, d3⟩ := kept_cells k hk
 refine ⟨?_, ?_, .int .i64 0, ?_⟩
 ·rw [World.cell?_alloc_at _ _ _ _ rfl]; exact d0
 ·rw [World.cell?_alloc_at _ _ _ _ rfl]; exact d1
 ·rw [World.cell?_alloc_at _ _ _ _ rfl]; exact d3

set_option maxRecDepth 100000 in
theorem rule_mul (g : Nat) (la ca lb cb : Nat) (pa pb : Option Addr) (k : Int) (w : World) :
  Calls Tryz.prog 45 #[.agg #[.int .i64 0, .slice pa la ca, .slice pb lb cb, .int .i64 k], .pointer (some ⟨g, 0, none⟩)] w fun e w' => e = .returned (.iface 141 (.agg #[.slice pa la ca, .slice pb lb cb])) ∧ Below w.heap.size w w' := by
 go_enter Tryz.func45, Tryz.ntmps45
 go_wp2_with fail
 go_ret
 exact ⟨rfl, by (repeat (with_reducible first | exact bR _ _ | assumption | refine bD ?_ | refine bN ?_ _ | refine bA ?_ _ | refine bS ?_ _))⟩
set_option maxRecDepth 100000 in
theorem rule_bit (g : Nat) (la ca lb cb : Nat) (pa pb : Option Addr) (k : Int) (w : World) :
  Calls Tryz.prog 45 #[.agg #[.int .i64 1, .slice pa la ca, .slice pb lb cb, .int .i64 k], .pointer (some ⟨g, 0, none⟩)] w fun e w' => e = .returned (.iface 143 (.agg #[.slice pa la ca, .int .i64 k])) ∧ Below w.heap.size w w' := by
 go_enter Tryz.func45, Tryz.ntmps45
 go_wp2_with fail
 go_ret
 exact ⟨rfl, by (repeat (with_reducible first | exact bR _ _ | assumption | refine bD ?_ | refine bN ?_ _ | refine bA ?_ _ | refine bS ?_ _))⟩
set_option maxRecDepth 100000 in
theorem rule_inv (g : Nat) (la ca lb cb : Nat) (pa pb : Option Addr) (k : Int) (w : World) :
  Calls Tryz.prog 45 #[.agg #[.int .i64 2, .slice pa la ca, .slice pb lb cb, .int .i64 k], .pointer (some ⟨g, 0, none⟩)] w fun e w' => e = .returned (.iface 145 (.agg #[.slice pa la ca, .pointer (some ⟨g, 0, none⟩)])) ∧ Below w.heap.size w w' := by
 go_enter Tryz.func45, Tryz.ntmps45
 go_wp2_with fail
 go_ret
 exact ⟨rfl, by (repeat (with_reducible first | exact bR _ _ | assumption | refine bD ?_ | refine bN ?_ _ | refine bA ?_ _ | refine bS ?_ _))⟩
set_option maxRecDepth 100000 in
theorem rule_quo (g : Nat) (la ca lb cb : Nat) (pa pb : Option Addr) (k : Int) (w : World) :
  Calls Tryz.prog 45 #[.agg #[.int .i64 3, .slice pa la ca, .slice pb lb cb, .int .i64 k], .pointer (some ⟨g, 0, none⟩)] w fun e w' => e = .returned (.iface 146 (.agg #[.slice pa la ca, .slice pb lb cb])) ∧ Below w.heap.size w w' := by
 go_enter Tryz.func45, Tryz.ntmps45
 go_wp2_with fail
 go_ret
 exact ⟨rfl, by (repeat (with_reducible first | exact bR _ _ | assumption | refine bD ?_ | refine bN ?_ _ | refine bA ?_ _ | refine bS ?_ _))⟩

set_option maxRecDepth 100000 in
set_option maxHeartbeats 12800000 in
theorem solve_impl (o l h vi vo vh vc) (s : SysC) (lim : Nat) (v : Value) (xs : List Int) (w : World) (t : SysR o l h w vi vo vh vc s) (hw : h ≤ w.heap.size) (ti : Ints lim w v xs) (hl : lim ≤ w.heap.size) (ni : xs.length ≤ 1048576) (nh : s.hints.length ≤ 1048576) (no : s.outs.length ≤ 1048576) (nc : s.cons.length ≤ 1048576) :
  Calls Tryz.prog 11 #[.agg #[vi, vo, vh, vc], v] w fun e w' => ∃ u, e = .returned (.tuple #[u, .bool (solB s xs)]) ∧ Below w.heap.size w w' ∧ Nums true w.heap.size w'.heap.size w' u (solL s xs) := by
 obtain ⟨tO, tH, tC⟩ := t.parts
 obtain ⟨ao, ko, ah, kh, ac, kc, rfl, rfl, rfl, rfl, lo, bo, lh, bh, lc, bc, fi⟩ := t.shape
 obtain ⟨ai, ki, rfl, lai, bai⟩ := ti.shape
 obtain ⟨i0, hi0, hz0, hz1, hz2⟩ := info_parts intInfo
 have hmf : ∀ (fn : Fn) (first cap : Array Value) (w : World), (Instr.makeFunc fn first cap).run Tryz.prog w = .ok (.func fn first cap) w := fun _ _ _ _ => rfl
 have hgo : ∀ b, sysOk s = b → ∀ (w1 : World), Below w.heap.size w w1 → Calls Tryz.prog 43 #[.agg #[.int .i64 s.ins, .slice ao s.outs.length ko, .slice ah s.hints.length kh, .slice ac s.cons.length kc]] w1 fun e w' => e = .returned (.bool b) ∧ Below w1.heap.size w1 w' := fun b hb w1 e1 =>
  sysOk_implb o l h _ _ _ _ s w1 (t.keep e1 hw) (Nat.le_trans hw e1.size) nh no nc b hb
 have HG := Lib.hid hgo
 clear hgo
 cases hk : sysOk s
 case false =>
  have E1 := Lib.hid (solB_sys (xs := xs) hk)
  have HK := Lib.hid (HG.out false hk)
  clear hk
  go_enter Tryz.func11, Tryz.ntmps11
  go_wp2_with fail
  refine name_call fun w1 hw1 => ?_
  have b1 : Below w.heap.size w w1 := by rw [hw1]; (repeat (with_reducible first | exact bR _ _ | assumption | refine bD ?_ | refine bN ?_ _ | refine bA ?_ _ | refine bS ?_ _))
  clear hw1
  refine (HK.out w1 b1).mono ?_; rintro e w2 ⟨rfl, f2⟩
  have b2 := b1.trans (f2.mono b1.size)
  go_wp2_with fail
  go_ret2
  exact ⟨_, by rw [E1.out]; rfl, b2, by rw [solL_no E1.out]; exact Nums.nil _ _ _ _⟩
 have OK := Lib.hid hk
 have HK := Lib.hid (HG.out true hk)
 clear hk HG
 by_cases hn : (xs.length : Int) = s.ins
 case' neg =>
  have E1 := Lib.hid (solB_len hn)
  have hne : ((xs.length : Int) != s.ins) = true := by simp [hn]
  go_enter Tryz.func11, Tryz.ntmps11
  go_wp2_with fail
  refine name_call fun w1 hw1 => ?_
  have b1 : Below w.heap.size w w1 := by rw [hw1]; (repeat (with_reducible first | exact bR _ _ | assumption | refine bD ?_ | refine bN ?_ _ | refine bA ?_ _ | refine bS ?_ _))
  have cI1 : w1.cell? ⟨w.heap.size, 0, none⟩ = some (.int .i64 s.ins) := by rw [hw1]; first | (simp; done) | go_simp
  clear hw1
  refine (HK.out w1 b1).mono ?_; rintro e w2 ⟨rfl, f2⟩
  have b2 := b1.trans (f2.mono b1.size)
  have cI2 := cell_keep f2 cI1
  go_wp2_with fail
  go_ret2
  exact ⟨_, by rw [E1.out]; rfl, b2, by rw [solL_no E1.out]; exact Nums.nil _ _ _ _⟩
 have hne : ((xs.length : Int) != s.ins) = false := by simp [hn]
 have lim2 := limB_facts (sysOk_limB OK.out)
 have hx100 : xs.length ≤ 100 := by omega
 have hh3 : s.hints.length ≤ 3000 := by omega
 have HN := Lib.hid hn
 clear hn lim2
 go_enter Tryz.func11, Tryz.ntmps11
 go_wp2_with fail
 refine name_call fun w1 hw1 => ?_
 have b1 : Below w.heap.size w w1 := by rw [hw1]; (repeat (with_reducible first | exact bR _ _ | assumption | refine bD ?_ | refine bN ?_ _ | refine bA ?_ _ | refine bS ?_ _))
 have z1 : w.heap.size + 1 ≤ w1.heap.size := by rw [hw1]; simp
 have cI1 : w1.cell? ⟨w.heap.size, 0, none⟩ = some (.int .i64 s.ins) := by rw [hw1]; first | (simp; done) | go_simp
 have cO1 : w1.cell? ⟨w.heap.size, 1, none⟩ = some (.slice ao s.outs.length ko) := by rw [hw1]; first | (simp; done) | go_simp
 have cH1 : w1.cell? ⟨w.heap.size, 2, none⟩ = some (.slice ah s.hints.length kh) := by rw [hw1]; first | (simp; done) | go_simp
 have cC1 : w1.cell? ⟨w.heap.size, 3, none⟩ = some (.slice ac s.cons.length kc) := by rw [hw1]; first | (simp; done) | go_simp
 clear hw1
 refine (HK.out w1 b1).mono ?_; rintro e w2 ⟨rfl, f2⟩
 have z2 := f2.size
 have b2 := b1.trans (f2.mono b1.size)
 have cI2 := cell_keep f2 cI1
 have cO2 := cell_keep f2 cO1
 have cH2 := cell_keep f2 cH1
 have cC2 := cell_keep f2 cC1
 have lb2 : w.heap.size < w2.heap.size := by omega
 clear cI1 cO1 cH1 cC1 HK
 obtain ⟨B0, hB0⟩ : ∃ B0, B0 = w2.heap.size := ⟨_, rfl⟩
 have HB0 := Lib.hid hB0
 clear hB0
 go_wp2_with (at_builtin; refine name_list ?_)
 intro W hW
 have b3 : Below w2.heap.size w2 W := by rw [hW]; (repeat (with_reducible first | exact bR _ _ | assumption | refine bD ?_ | refine bN ?_ _ | refine bA ?_ _ | refine bS ?_ _))
 have z3 : w2.heap.size + 1 ≤ W.heap.size := by rw [hW]; simp
 have b03 := b2.trans (b3.mono (by omega))
 have C := Lib.hid (ints_cells2 (ti.keep b03 hl))
 have row0 : W.ownsRow w2.heap.size 3 1 (.slice (some ⟨w2.heap.size, 0, none⟩) 1 1) 1 [.int .i64 1] := by
  rw [hW]
  have q := World.ownsRow_lit (base := w2.heap.size) (size := 1) (e := 3) w2 #[.int .i64 1] 1 (Nat.le_refl _) (by unfold maxLen; omega) rfl
  simpa using q
 have A1 : 1 + xs.length ≤ maxLen := by unfold maxLen; omega
 have A2 : (1 + xs.length) * 8 ≤ 140737488355328 := by omega
 have z3' : w2.heap.size ≤ W.heap.size := by omega
 clear hW
 go_wp2_with (at_builtin; refine wpList_append_spread _ rfl _ _ 27 rfl w2.heap.size 3 i0 (.int .i64 0) 1 8 Tryz.underlying27 hi0 hz0 hz1 hz2 rfl (by decide) (.slice (some ⟨w2.heap.size, 0, none⟩) 1 1) 1 [.int .i64 1] rfl row0 _ _ _ (iv2 xs) rfl (iv2_len xs) C.out.1 C.out.2 (iv2_one xs) A1 A2 z3' ?_; rintro v' w5 ⟨hown, hgrow, -⟩; obtain ⟨a', cap', rfl⟩ := own_slice hown; have e5 : Below w2.heap.size W w5 := below_grown (row := some w2.heap.size) hgrow z3' (fun k e => by simp at e; omega))
 have e25 : Below w2.heap.size w2 w5 := b3.trans (e5.mono (by omega))
 have b5 : Below w.heap.size w w5 := b2.trans (e25.mono (by omega))
 have z5 : w2.heap.size ≤ w5.heap.size := e25.size
 have kI := cell_keep e25 cI2
 have kO := cell_keep e25 cO2
 have kH := cell_keep e25 cH2
 have kC := cell_keep e25 cC2
 have fits1 : ∀ x ∈ (1 :: xs), Fits x := by
  obtain ⟨_, _, _, _, _, hf, _⟩ := id ti
  intro x hx
  rcases List.mem_cons.1 hx with rfl | hx
  ·unfold Fits; omega
  ·exact hf x hx
 have hown0 : w5.ownsRow w2.heap.size 3 1 (.slice a' (1 + xs.length) cap') (1 :: xs).length ((1 :: xs).map (Value.int .i64)) := by
  rw [show (1 :: xs).length = 1 + xs.length from by rw [List.length_cons]; omega]
  exact hown
 have TN := (Nums.own (ts := 1 :: xs) hown0 fits1).ints
 have hlen : (1 :: xs).length = 1 + xs.length := by rw [List.length_cons]; omega
 clear hown hgrow row0 C e5 cI2 cO2 cH2 cC2 b3
 cases hall : xs.all flB
 case false =>
  have E1 : Hid (solB s xs = false) := Lib.hid (by unfold solB; rw [hall]; simp)
  have AI := asg_impl w5.heap.size _ (1 :: xs) w5 TN
  rw [asg_no hall] at AI
  have HAI := Lib.hid AI
  clear AI hown0 hlen hall TN
  go_wp2_with fail
  refine HAI.out.mono ?_; rintro e w6 ⟨rfl, rfl⟩
  go_wp2_with fail
  go_ret2
  exact ⟨_, by rw [E1.out]; rfl, b5, by rw [solL_no E1.out]; exact Nums.nil _ _ _ _⟩
 have hf := all_fl hall
 have A0 := Lib.hid (asg_start hf (by omega))
 have AK := Lib.hid fun (k : Nat) (hk : k ≤ s.hints.length) => show isAsg (solveF (1 :: xs) (s.hints.take k)) = true from solveF_asg _ _ A0.out (by rw [List.length_take]; simp; have := HN.out; have := limB_facts (sysOk_limB OK.out); omega)
 have LK := Lib.hid fun (k : Nat) (hk : k ≤ s.hints.length) => show (solveF (1 :: xs) (s.hints.take k)).length = xs.length + 1 + k from by rw [solveF_len, List.length_take, Nat.min_eq_left hk]; simp
 have EB := Lib.hid (solB_ofI OK.out HN.out hf)
 have AI := asg_impl w5.heap.size _ (1 :: xs) w5 TN
 rw [A0.out] at AI
 have HAI := Lib.hid AI
 have hown1 : w5.ownsRow w2.heap.size 3 1 (.slice a' (1 + xs.length) cap') (solveF (1 :: xs) (s.hints.take 0)).length ((solveF (1 :: xs) (s.hints.take 0)).map (Value.int .i64)) := hown0
 clear AI hall TN hlen hown0 hf
 go_wp2_with fail
 refine HAI.out.mono ?_; rintro e w6 ⟨rfl, rfl⟩
 clear HAI
 go_upto_region 7 with fail
 refine name_wp fun w7 hw7 => ?_
 have e7 : Below w5.heap.size w5 w7 := by rw [hw7]; (repeat (with_reducible first | exact bR _ _ | assumption | refine bD ?_ | refine bN ?_ _ | refine bA ?_ _ | refine bS ?_ _))
 have K7 : Known w5.heap.size w7 := known_new w5 w7 hw7
 obtain ⟨g, hg⟩ : ∃ g, w5.heap.size = g := ⟨_, rfl⟩
 have b7 := b5.trans (e7.mono b5.size)
 have z7 := e7.size
 have row7 := row_keep hown1 e7
 have ne7 : ∀ q, (Value.slice a' (1 + xs.length) cap').ownBlock = some q → q ≠ w5.heap.size := fun q hq e => by have := (hown1.lt q hq).2; omega
 have lI := cell_keep e7 kI
 have lO := cell_keep e7 kO
 have lH := cell_keep e7 kH
 have lC := cell_keep e7 kC
 clear hw7 kI kO kH kC hown1
 rw [hg] at K7 ne7 ⊢
 have lg0 : w2.heap.size ≤ g := by omega
 have lg7 : g < w7.heap.size := K7.1
 have HLG := Lib.hid lg0
 clear hg lg0 e7 e25
 go_wp2_with fail
 go_loopw [6, 29] (fun v i wr => ∃ k : Nat, k ≤ s.hints.length ∧ i = .int .i64 k ∧ Below w.heap.size w wr ∧ w7.heap.size ≤ wr.heap.size ∧ wr.cell? ⟨w.heap.size, 0, none⟩ = some (.int .i64 s.ins) ∧ wr.cell? ⟨w.heap.size, 1, none⟩ = some (.slice ao s.outs.length ko) ∧ wr.cell? ⟨w.heap.size, 2, none⟩ = some (.slice ah s.hints.length kh) ∧ wr.cell? ⟨w.heap.size, 3, none⟩ = some (.slice ac s.cons.length kc) ∧ wr.ownsRow w2.heap.size 3 1 v (solveF (1 :: xs) (s.hints.take k)).length ((solveF (1 :: xs) (s.hints.take k)).map (Value.int .i64)) ∧ Known g wr ∧ (∀ q, v.ownBlock = some q → q ≠ g)) (fun _ i _ => s.hints.length - (intOf i).toNat)
 case atStart => exact ⟨0, Nat.zero_le _, rfl, b7, Nat.le_refl _, lI, lO, lH, lC, row7, K7, ne7⟩
 case round =>
  clear lI lO lH lC row7 K7 ne7
  obtain ⟨k, hk, rfl, be, zz, cI, cO, cH, cC, hrow, KG, hne'⟩ := hrel
  by_cases hlt : k < s.hints.length
  ·obtain ⟨b, off, va, vb, rfl, l1, m1, c0, c1, c2, c3, f0, f3, ta, tb⟩ := (tH.keep be hw).at hlt
   obtain ⟨x, kx, rfl, lx, bx⟩ := ta.shape
   obtain ⟨y, ky, rfl, ly, by'⟩ := tb.shape
   have hLk := LK.out k hk
   have ASG := Lib.hid (AK.out k hk)
   have HW : Hid (hintW (solveF (1 :: xs) (s.hints.take k)).length s.hints[k] = true) := Lib.hid (by
    have q := sysOk_hint_at OK.out hlt
    have hn := HN.out
    rw [show ((solveF (1 :: xs) (s.hints.take k)).length : Int) = 1 + s.ins + (k : Int) from by rw [hLk]; omega]
    exact q)
   have HT : Hid ((solveF (1 :: xs) (s.hints.take (k + 1))).map (Value.int .i64) = (solveF (1 :: xs) (s.hints.take k)).map (Value.int .i64) ++ [.int .i64 (toldV (solveF (1 :: xs) (s.hints.take k)) s.hints[k])]) := Lib.hid (by rw [solveF_take hlt, List.map_append]; rfl)
   have HTL : Hid ((solveF (1 :: xs) (s.hints.take (k + 1))).length = (solveF (1 :: xs) (s.hints.take k)).length + 1) := Lib.hid (by rw [solveF_take hlt, List.length_append]; rfl)
   have hfit := asg_fit2 ASG.out
   have hL : (solveF (1 :: xs) (s.hints.take k)).length ≤ 3200 := by omega
   have TN := Nums.own hrow hfit
   have bl : b < wr.heap.size := World.block_lt_of_cell? _ _ c0
   have lcI : w.heap.size < wr.heap.size := World.block_lt_of_cell? _ _ cI
   obtain ⟨ra, rc, rfl⟩ := own_slice hrow
   have hKind := HW.out
   unfold hintW at hKind
   rw [Bool.and_eq_true, Bool.and_eq_true] at hKind
   obtain ⟨gA, gB, gK⟩ := hKind
   have gK' := of_decide_eq_true gK
   have HGA := Lib.hid gA
   have HGB := Lib.hid gB
   have HKE := Lib.hid gK'
   have HVE : Hid (toldV (solveF (1 :: xs) (s.hints.take k)) s.hints[k] = if s.hints[k].kind = 0 then lval (solveF (1 :: xs) (s.hints.take k)) s.hints[k].a * lval (solveF (1 :: xs) (s.hints.take k)) s.hints[k].b % 2147483647 else if s.hints[k].kind = 1 then lval (solveF (1 :: xs) (s.hints.take k)) s.hints[k].a / 2 ^ s.hints[k].k.toNat % 2 else if s.hints[k].kind = 2 then M.pw (lval (solveF (1 :: xs) (s.hints.take k)) s.hints[k].a) 2147483645 else if lval (solveF (1 :: xs) (s.hints.take k)) s.hints[k].b = 0 then 0 else lval (solveF (1 :: xs) (s.hints.take k)) s.hints[k].a / lval (solveF (1 :: xs) (s.hints.take k)) s.hints[k].b) := Lib.hid rfl
   clear hLk hfit gA gB gK gK'
   obtain ⟨kd, hkd⟩ : ∃ kd, kd = s.hints[k].kind := ⟨_, rfl⟩
   obtain ⟨kk, hkk⟩ : ∃ kk, kk = s.hints[k].k := ⟨_, rfl⟩
   rw [← hkd] at c0
   rw [← hkk] at c3
   rw [← hkd, ← hkk] at HVE HKE
   generalize solveF (1 :: xs) (s.hints.take k) = L at *
   clear hkd hkk
   obtain ⟨y', hy'⟩ : ∃ y', toldV L s.hints[k] = y' := ⟨_, rfl⟩
   rw [hy'] at HVE HT
   clear hy'
   go_wp2_with fail
   refine name_call fun w1 hw1 => ?_
   have e1 : Below wr.heap.size wr w1 := by rw [hw1]; (repeat (with_reducible first | exact bR _ _ | assumption | refine bD ?_ | refine bN ?_ _ | refine bA ?_ _ | refine bS ?_ _))
   have cI1 := cell_keep e1 cI
   have cO1 := cell_keep e1 cO
   have cH1 := cell_keep e1 cH
   have cC1 := cell_keep e1 cC
   have tA1 := ta.keep e1 (by omega)
   have tB1 := tb.keep e1 (by omega)
   have TN1 := TN.keep e1 (Nat.le_refl _)
   have hrow1 := row_keep hrow e1
   have z1' := e1.size
   have b1' := be.trans (e1.mono (by omega))
   have KG1 := KG.keep e1
   clear hw1 cI cO cH cC ta tb TN hrow KG c0 c1 c2 c3 f0 f3
   by_cases k0 : kd = 0
   ·subst k0
    refine (rule_mul g _ _ _ _ _ _ kk w1).mono ?_; rintro e w3 ⟨rfl, f2'⟩
    have z2' := f2'.size
    have b2' := b1'.trans (f2'.mono (by omega))
    have tA2 := tA1.keep f2' (by omega)
    have tB2 := tB1.keep f2' (by omega)
    have TN2 := TN1.keep f2' (by omega)
    have hrow2 := row_keep hrow1 f2'
    have KG2 := KG1.keep f2'
    have cI2 := cell_keep f2' cI1
    have cO2 := cell_keep f2' cO1
    have cH2 := cell_keep f2' cH1
    have cC2 := cell_keep f2' cC1
    have RV := mulRule_any o l h _ _ s.hints[k].a s.hints[k].b wr.heap.size _ L w3 tA2 tB2 (by omega) TN2.ints (by omega) ASG.out HGA.out HGB.out
    have ev := HVE.out
    rw [if_pos rfl] at ev
    rw [← ev] at RV
    have HRV := Lib.hid RV
    have iv := inv_mul
    clear RV ev tA1 tB1 TN1 hrow1 KG1 cI1 cO1 cH1 cC1 tA2 tB2 TN2
    go_wp2_with fail
    refine HRV.out.mono ?_; rintro e w4 ⟨rfl, f4⟩
    have KG4 := KG2.keep f4
    have on4 : OnlyF (fun q => q = g) w3 w4 := .of_below f4
    clear HRV
    have f4' : Below w2.heap.size w3 w4 := on4.below (fun q hq => by have := HLG.out; omega) (by omega)
    have z4 := on4.size
    have ng : ¬ w.heap.size = g := by have := HLG.out; omega
    have hrow4 := hrow2.kept (grown_of_onlyF on4) (by cases qo : (Value.slice ra L.length rc).ownBlock with | none => exact .inl rfl | some q => exact .inr (fun e => hne' q qo (Option.some.inj e)))
    have cI4 := (on4.cell (by omega) ng 0).trans cI2
    have cO4 := (on4.cell (by omega) ng 1).trans cO2
    have cH4 := (on4.cell (by omega) ng 2).trans cH2
    have cC4 := (on4.cell (by omega) ng 3).trans cC2
    have b4 := b2'.trans (f4'.mono (by omega))
    have lw : w.heap.size < w4.heap.size := by omega
    have lg4 := KG4.1
    clear on4 hrow2 KG2 cI2 cO2 cH2 cC2 ng
    have B1 : L.length + 1 ≤ maxLen := by unfold maxLen; omega
    have B2 : (L.length + 1) * 8 ≤ 140737488355328 := by omega
    have B3 : w2.heap.size ≤ w4.heap.size := by omega
    go_wp2_with (at_builtin; refine wpList_append_own_at _ rfl _ _ 27 rfl w2.heap.size 3 i0 (.int .i64 0) 1 8 Tryz.underlying27 hi0 hz0 hz1 hz2 rfl (by decide) _ _ _ rfl (hrow4.alloc _) ⟨w4.heap.size, 0, none⟩ 1 1 [.int .i64 y'] rfl rfl (cell_one_new' _ _ _) (by simp [Value.oneCell']) B1 B2 (Nat.le_trans B3 (by simp)) ?_; intro v' w6 hown' hgrow _ hat)
    have eB : Below w2.heap.size (w4.alloc (.cells #[.int .i64 y'] 3)) w6 := (Below.refl _ _).grown hgrow (Nat.le_trans B3 (by simp)) (fun j ej => (hrow4.lt j ej).1)
    have be6 : Below w.heap.size w w6 := (b4.alloc (by omega) (.cells #[.int .i64 y'] 3)).trans (eB.mono (by omega))
    have z6 := hgrow.size
    simp only [World.size_alloc] at z6
    have KG6 : Known g w6 := (KG4.keep (w' := w4.alloc (.cells #[.int .i64 y'] 3)) ((Below.refl _ _).alloc (Nat.le_refl _) _)).grown hgrow (fun e => hne' g e rfl)
    have ne6 : ∀ q, v'.ownBlock = some q → q ≠ g := fun q hq => by
     rcases hat with hat | hat
     ·exact hne' q (hat ▸ hq)
     ·rw [hat] at hq; have := Option.some.inj hq; simp only [World.size_alloc] at this; omega
    have kI := (eB.cell (p := ⟨w.heap.size, 0, none⟩) lb2).trans (alloc_keep cI4)
    have kO := (eB.cell (p := ⟨w.heap.size, 1, none⟩) lb2).trans (alloc_keep cO4)
    have kH := (eB.cell (p := ⟨w.heap.size, 2, none⟩) lb2).trans (alloc_keep cH4)
    have kC := (eB.cell (p := ⟨w.heap.size, 3, none⟩) lb2).trans (alloc_keep cC4)
    clear cI4 cO4 cH4 cC4 hrow4 KG4 hat hgrow eB
    go_roundw
    case rel => exact ⟨k + 1, by omega, by go_num, be6, by omega, kI, kO, kH, kC, by rw [HT.out, HTL.out]; exact hown', KG6, ne6⟩
    case measure => simp [intOf]; omega
   by_cases k1 : kd = 1
   ·subst k1
    refine (rule_bit g _ _ _ _ _ _ kk w1).mono ?_; rintro e w3 ⟨rfl, f2'⟩
    have z2' := f2'.size
    have b2' := b1'.trans (f2'.mono (by omega))
    have tA2 := tA1.keep f2' (by omega)
    have tB2 := tB1.keep f2' (by omega)
    have TN2 := TN1.keep f2' (by omega)
    have hrow2 := row_keep hrow1 f2'
    have KG2 := KG1.keep f2'
    have cI2 := cell_keep f2' cI1
    have cO2 := cell_keep f2' cO1
    have cH2 := cell_keep f2' cH1
    have cC2 := cell_keep f2' cC1
    have hkk0 : 0 ≤ kk ∧ kk ≤ 30 := by have := HKE.out; omega
    obtain ⟨kn, rfl⟩ := Int.eq_ofNat_of_zero_le hkk0.1
    have RV := bitRule_any o l h _ s.hints[k].a kn (by omega) wr.heap.size _ L w3 tA2 (by omega) TN2.ints (by omega) ASG.out HGA.out
    have ev := HVE.out
    rw [if_neg (by omega), if_pos rfl, Int.toNat_natCast] at ev
    rw [← ev] at RV
    have HRV := Lib.hid RV
    have iv := inv_bit
    clear RV ev tA1 tB1 TN1 hrow1 KG1 cI1 cO1 cH1 cC1 tA2 tB2 TN2
    go_wp2_with fail
    refine HRV.out.mono ?_; rintro e w4 ⟨rfl, f4⟩
    have KG4 := KG2.keep f4
    have on4 : OnlyF (fun q => q = g) w3 w4 := .of_below f4
    clear HRV
    have f4' : Below w2.heap.size w3 w4 := on4.below (fun q hq => by have := HLG.out; omega) (by omega)
    have z4 := on4.size
    have ng : ¬ w.heap.size = g := by have := HLG.out; omega
    have hrow4 := hrow2.kept (grown_of_onlyF on4) (by cases qo : (Value.slice ra L.length rc).ownBlock with | none => exact .inl rfl | some q => exact .inr (fun e => hne' q qo (Option.some.inj e)))
    have cI4 := (on4.cell (by omega) ng 0).trans cI2
    have cO4 := (on4.cell (by omega) ng 1).trans cO2
    have cH4 := (on4.cell (by omega) ng 2).trans cH2
    have cC4 := (on4.cell (by omega) ng 3).trans cC2
    have b4 := b2'.trans (f4'.mono (by omega))
    have lw : w.heap.size < w4.heap.size := by omega
    have lg4 := KG4.1
    clear on4 hrow2 KG2 cI2 cO2 cH2 cC2 ng
    have B1 : L.length + 1 ≤ maxLen := by unfold maxLen; omega
    have B2 : (L.length + 1) * 8 ≤ 140737488355328 := by omega
    have B3 : w2.heap.size ≤ w4.heap.size := by omega
    go_wp2_with (at_builtin; refine wpList_append_own_at _ rfl _ _ 27 rfl w2.heap.size 3 i0 (.int .i64 0) 1 8 Tryz.underlying27 hi0 hz0 hz1 hz2 rfl (by decide) _ _ _ rfl (hrow4.alloc _) ⟨w4.heap.size, 0, none⟩ 1 1 [.int .i64 y'] rfl rfl (cell_one_new' _ _ _) (by simp [Value.oneCell']) B1 B2 (Nat.le_trans B3 (by simp)) ?_; intro v' w6 hown' hgrow _ hat)
    have eB : Below w2.heap.size (w4.alloc (.cells #[.int .i64 y'] 3)) w6 := (Below.refl _ _).grown hgrow (Nat.le_trans B3 (by simp)) (fun j ej => (hrow4.lt j ej).1)
    have be6 : Below w.heap.size w w6 := (b4.alloc (by omega) (.cells #[.int .i64 y'] 3)).trans (eB.mono (by omega))
    have z6 := hgrow.size
    simp only [World.size_alloc] at z6
    have KG6 : Known g w6 := (KG4.keep (w' := w4.alloc (.cells #[.int .i64 y'] 3)) ((Below.refl _ _).alloc (Nat.le_refl _) _)).grown hgrow (fun e => hne' g e rfl)
    have ne6 : ∀ q, v'.ownBlock = some q → q ≠ g := fun q hq => by
     rcases hat with hat | hat
     ·exact hne' q (hat ▸ hq)
     ·rw [hat] at hq; have := Option.some.inj hq; simp only [World.size_alloc] at this; omega
    have kI := (eB.cell (p := ⟨w.heap.size, 0, none⟩) lb2).trans (alloc_keep cI4)
    have kO := (eB.cell (p := ⟨w.heap.size, 1, none⟩) lb2).trans (alloc_keep cO4)
    have kH := (eB.cell (p := ⟨w.heap.size, 2, none⟩) lb2).trans (alloc_keep cH4)
    have kC := (eB.cell (p := ⟨w.heap.size, 3, none⟩) lb2).trans (alloc_keep cC4)
    clear cI4 cO4 cH4 cC4 hrow4 KG4 hat hgrow eB
    go_roundw
    case rel => exact ⟨k + 1, by omega, by go_num, be6, by omega, kI, kO, kH, kC, by rw [HT.out, HTL.out]; exact hown', KG6, ne6⟩
    case measure => simp [intOf]; omega
   by_cases k2 : kd = 2
   ·subst k2
    refine (rule_inv g _ _ _ _ _ _ kk w1).mono ?_; rintro e w3 ⟨rfl, f2'⟩
    have z2' := f2'.size
    have b2' := b1'.trans (f2'.mono (by omega))
    have tA2 := tA1.keep f2' (by omega)
    have tB2 := tB1.keep f2' (by omega)
    have TN2 := TN1.keep f2' (by omega)
    have hrow2 := row_keep hrow1 f2'
    have KG2 := KG1.keep f2'
    have cI2 := cell_keep f2' cI1
    have cO2 := cell_keep f2' cO1
    have cH2 := cell_keep f2' cH1
    have cC2 := cell_keep f2' cC1
    have RV := invRule_any g o l h _ s.hints[k].a wr.heap.size _ L w3 KG2 tA2 (by omega) TN2.ints (by omega) ASG.out HGA.out
    have ev := HVE.out
    rw [if_neg (by omega), if_neg (by omega), if_pos rfl] at ev
    rw [← ev] at RV
    have HRV := Lib.hid RV
    have iv := inv_inv
    clear RV ev tA1 tB1 TN1 hrow1 KG1 cI1 cO1 cH1 cC1 tA2 tB2 TN2
    go_wp2_with fail
    refine HRV.out.mono ?_; rintro e w4 ⟨rfl, KG4, on4⟩
    clear HRV
    have f4' : Below w2.heap.size w3 w4 := on4.below (fun q hq => by have := HLG.out; omega) (by omega)
    have z4 := on4.size
    have ng : ¬ w.heap.size = g := by have := HLG.out; omega
    have hrow4 := hrow2.kept (grown_of_onlyF on4) (by cases qo : (Value.slice ra L.length rc).ownBlock with | none => exact .inl rfl | some q => exact .inr (fun e => hne' q qo (Option.some.inj e)))
    have cI4 := (on4.cell (by omega) ng 0).trans cI2
    have cO4 := (on4.cell (by omega) ng 1).trans cO2
    have cH4 := (on4.cell (by omega) ng 2).trans cH2
    have cC4 := (on4.cell (by omega) ng 3).trans cC2
    have b4 := b2'.trans (f4'.mono (by omega))
    have lw : w.heap.size < w4.heap.size := by omega
    have lg4 := KG4.1
    clear on4 hrow2 KG2 cI2 cO2 cH2 cC2 ng
    have B1 : L.length + 1 ≤ maxLen := by unfold maxLen; omega
    have B2 : (L.length + 1) * 8 ≤ 140737488355328 := by omega
    have B3 : w2.heap.size ≤ w4.heap.size := by omega
    go_wp2_with (at_builtin; refine wpList_append_own_at _ rfl _ _ 27 rfl w2.heap.size 3 i0 (.int .i64 0) 1 8 Tryz.underlying27 hi0 hz0 hz1 hz2 rfl (by decide) _ _ _ rfl (hrow4.alloc _) ⟨w4.heap.size, 0, none⟩ 1 1 [.int .i64 y'] rfl rfl (cell_one_new' _ _ _) (by simp [Value.oneCell']) B1 B2 (Nat.le_trans B3 (by simp)) ?_; intro v' w6 hown' hgrow _ hat)
    have eB : Below w2.heap.size (w4.alloc (.cells #[.int .i64 y'] 3)) w6 := (Below.refl _ _).grown hgrow (Nat.le_trans B3 (by simp)) (fun j ej => (hrow4.lt j ej).1)
    have be6 : Below w.heap.size w w6 := (b4.alloc (by omega) (.cells #[.int .i64 y'] 3)).trans (eB.mono (by omega))
    have z6 := hgrow.size
    simp only [World.size_alloc] at z6
    have KG6 : Known g w6 := (KG4.keep (w' := w4.alloc (.cells #[.int .i64 y'] 3)) ((Below.refl _ _).alloc (Nat.le_refl _) _)).grown hgrow (fun e => hne' g e rfl)
    have ne6 : ∀ q, v'.ownBlock = some q → q ≠ g := fun q hq => by
     rcases hat with hat | hat
     ·exact hne' q (hat ▸ hq)
     ·rw [hat] at hq; have := Option.some.inj hq; simp only [World.size_alloc] at this; omega
    have kI := (eB.cell (p := ⟨w.heap.size, 0, none⟩) lb2).trans (alloc_keep cI4)
    have kO := (eB.cell (p := ⟨w.heap.size, 1, none⟩) lb2).trans (alloc_keep cO4)
    have kH := (eB.cell (p := ⟨w.heap.size, 2, none⟩) lb2).trans (alloc_keep cH4)
    have kC := (eB.cell (p := ⟨w.heap.size, 3, none⟩) lb2).trans (alloc_keep cC4)
    clear cI4 cO4 cH4 cC4 hrow4 KG4 hat hgrow eB
    go_roundw
    case rel => exact ⟨k + 1, by omega, by go_num, be6, by omega, kI, kO, kH, kC, by rw [HT.out, HTL.out]; exact hown', KG6, ne6⟩
    case measure => simp [intOf]; omega
   obtain rfl : kd = 3 := by have := HKE.out; omega
   refine (rule_quo g _ _ _ _ _ _ kk w1).mono ?_; rintro e w3 ⟨rfl, f2'⟩
   have z2' := f2'.size
   have b2' := b1'.trans (f2'.mono (by omega))
   have tA2 := tA1.keep f2' (by omega)
   have tB2 := tB1.keep f2' (by omega)
   have TN2 := TN1.keep f2' (by omega)
   have hrow2 := row_keep hrow1 f2'
   have KG2 := KG1.keep f2'
   have cI2 := cell_keep f2' cI1
   have cO2 := cell_keep f2' cO1
   have cH2 := cell_keep f2' cH1
   have cC2 := cell_keep f2' cC1
   have RV := quoRule_any o l h _ _ s.hints[k].a s.hints[k].b wr.heap.size _ L w3 tA2 tB2 (by omega) TN2.ints (by omega) ASG.out HGA.out HGB.out
   have ev := HVE.out
   rw [if_neg (by omega), if_neg (by omega), if_neg (by omega)] at ev
   rw [← ev] at RV
   have HRV := Lib.hid RV
   have iv := inv_quo
   clear RV ev tA1 tB1 TN1 hrow1 KG1 cI1 cO1 cH1 cC1 tA2 tB2 TN2
   go_wp2_with fail
   refine HRV.out.mono ?_; rintro e w4 ⟨rfl, f4⟩
   have KG4 := KG2.keep f4
   have on4 : OnlyF (fun q => q = g) w3 w4 := .of_below f4
   clear HRV
   have f4' : Below w2.heap.size w3 w4 := on4.below (fun q hq => by have := HLG.out; omega) (by omega)
   have z4 := on4.size
   have ng : ¬ w.heap.size = g := by have := HLG.out; omega
   have hrow4 := hrow2.kept (grown_of_onlyF on4) (by cases qo : (Value.slice ra L.length rc).ownBlock with | none => exact .inl rfl | some q => exact .inr (fun e => hne' q qo (Option.some.inj e)))
   have cI4 := (on4.cell (by omega) ng 0).trans cI2
   have cO4 := (on4.cell (by omega) ng 1).trans cO2
   have cH4 := (on4.cell (by omega) ng 2).trans cH2
   have cC4 := (on4.cell (by omega) ng 3).trans cC2
   have b4 := b2'.trans (f4'.mono (by omega))
   have lw : w.heap.size < w4.heap.size := by omega
   have lg4 := KG4.1
   clear on4 hrow2 KG2 cI2 cO2 cH2 cC2 ng
   have B1 : L.length + 1 ≤ maxLen := by unfold maxLen; omega
   have B2 : (L.length + 1) * 8 ≤ 140737488355328 := by omega
   have B3 : w2.heap.size ≤ w4.heap.size := by omega
   go_wp2_with (at_builtin; refine wpList_append_own_at _ rfl _ _ 27 rfl w2.heap.size 3 i0 (.int .i64 0) 1 8 Tryz.underlying27 hi0 hz0 hz1 hz2 rfl (by decide) _ _ _ rfl (hrow4.alloc _) ⟨w4.heap.size, 0, none⟩ 1 1 [.int .i64 y'] rfl rfl (cell_one_new' _ _ _) (by simp [Value.oneCell']) B1 B2 (Nat.le_trans B3 (by simp)) ?_; intro v' w6 hown' hgrow _ hat)
   have eB : Below w2.heap.size (w4.alloc (.cells #[.int .i64 y'] 3)) w6 := (Below.refl _ _).grown hgrow (Nat.le_trans B3 (by simp)) (fun j ej => (hrow4.lt j ej).1)
   have be6 : Below w.heap.size w w6 := (b4.alloc (by omega) (.cells #[.int .i64 y'] 3)).trans (eB.mono (by omega))
   have z6 := hgrow.size
   simp only [World.size_alloc] at z6
   have KG6 : Known g w6 := (KG4.keep (w' := w4.alloc (.cells #[.int .i64 y'] 3)) ((Below.refl _ _).alloc (Nat.le_refl _) _)).grown hgrow (fun e => hne' g e rfl)
   have ne6 : ∀ q, v'.ownBlock = some q → q ≠ g := fun q hq => by
    rcases hat with hat | hat
    ·exact hne' q (hat ▸ hq)
    ·rw [hat] at hq; have := Option.some.inj hq; simp only [World.size_alloc] at this; omega
   have kI := (eB.cell (p := ⟨w.heap.size, 0, none⟩) lb2).trans (alloc_keep cI4)
   have kO := (eB.cell (p := ⟨w.heap.size, 1, none⟩) lb2).trans (alloc_keep cO4)
   have kH := (eB.cell (p := ⟨w.heap.size, 2, none⟩) lb2).trans (alloc_keep cH4)
   have kC := (eB.cell (p := ⟨w.heap.size, 3, none⟩) lb2).trans (alloc_keep cC4)
   clear cI4 cO4 cH4 cC4 hrow4 KG4 hat hgrow eB
   go_roundw
   case rel => exact ⟨k + 1, by omega, by go_num, be6, by omega, kI, kO, kH, kC, by rw [HT.out, HTL.out]; exact hown', KG6, ne6⟩
   case measure => simp [intOf]; omega
  ·obtain rfl : k = s.hints.length := by omega
   have AS := AK.out _ (Nat.le_refl _)
   rw [List.take_length] at hrow AS
   have hrow' : wr.ownsRow w2.heap.size 3 1 _ (solveL s xs).length ((solveL s xs).map (Value.int .i64)) := hrow
   have TN := Nums.own (ts := solveL s xs) hrow' (asg_fit2 AS)
   have HTN := Lib.hid (TN.mono (l' := w.heap.size) (h' := wr.heap.size) (by omega) (Nat.le_refl _))
   have hv : ((solveL s xs).length : Int) = varsN s := by rw [solveL_len]; unfold varsN; have := HN.out; omega
   have HC := Lib.hid (cons_in OK.out hv)
   have SH := sysHolds_any o l h _ _ _ _ s wr.heap.size _ (solveL s xs) wr (t.keep be hw) (by omega) TN.ints (Nat.le_refl _) AS HC.out
   rw [← EB.out] at SH
   have HSH := Lib.hid SH
   obtain ⟨ra, rc, rfl⟩ := own_slice hrow'
   clear SH TN hrow hrow' AS hv HC
   go_wp2_with fail
   refine HSH.out.mono ?_; rintro e w8 ⟨rfl, f8⟩
   have b8 := be.trans (f8.mono be.size)
   have HTN8 := Lib.hid (HTN.out.keep f8 (Nat.le_refl _))
   clear HSH HTN
   cases hb : solB s xs
   case false =>
    have E1 := Lib.hid hb
    clear hb
    go_wp2_with fail
    go_ret2
    exact ⟨_, by rw [E1.out]; rfl, b8, by rw [solL_no E1.out]; exact Nums.nil _ _ _ _⟩
   case true =>
    have E1 : Hid (solL s xs = solveL s xs) := Lib.hid (by unfold solL; rw [if_pos hb])
    have E2 := Lib.hid hb
    clear hb
    go_wp2_with fail
    go_ret2
    exact ⟨_, by rw [E2.out]; rfl, b8, by rw [E1.out]; exact HTN8.out.mono (Nat.le_refl _) f8.size⟩
end Go.Proofs.YthipgpbapdambaaGreat.L
