/- Exact laws of functions of a slice of combinations (written by tools/linslaw.py). -/
import Derived.Test.YteekpdlkdpkegaaPack
import Derived.Test.YteekpdlkdpkegaaEqS
import Derived.Test.YteekpdlkdpkegaaMarks
namespace Go.Proofs.Yteekpdlkdpkegaa.L
open Go.RowKit Go.Proofs.Yteekpdlkdpkegaa.S
set_option linter.unusedVariables false
set_option linter.unusedSimpArgs false

theorem tot_memP {α : Type} {f : α → Nat} {xs : List α} {x : α} (h : x ∈ xs) : f x ≤ tot f xs := by
  induction xs with
  | nil => simp at h
  | cons y r ih =>
    rcases List.mem_cons.1 h with rfl | h
    · simp [tot]
    · have := ih h; simp only [tot, List.map_cons, List.sum_cons] at *; omega

set_option maxRecDepth 100000 in
set_option maxHeartbeats 6400000 in
theorem law_FnExactPack (vA : Value) (ls : List (List T)) (w : World) (hA : LinS false 0 w.heap.size w vA ls) :
    Calls Try.prog 10 #[vA] w fun e w' => e = .returned (.bool true) ∧ Below w.heap.size w w' := by
  obtain ⟨aA, kA, rfl, laA, baA⟩ := hA.shape
  by_cases hl : szLs ls ≤ 1048576
  case' neg =>
    go_enter Try.func10, Try.ntmps10
    go_wp2_with fail
    refine name_call fun w1 hw1 => ?_
    have b1 : Below w.heap.size w w1 := by rw [hw1]; (repeat (first | with_reducible exact Below.refl _ _ | with_reducible assumption | with_reducible refine Below.drew ?_ | with_reducible refine bdrewN ?_ _ | ((with_reducible refine balloc ?_ ?_ _); (focus (first | with_reducible exact Nat.le_refl _ | (simp; done) | omega | (simp; omega) | exact Nat.le_refl _))) | ((with_reducible refine bset ?_ ?_ _); (focus (first | with_reducible exact Nat.le_refl _ | (simp; done) | omega | (simp; omega) | exact Nat.le_refl _)))))
    have z1 : w.heap.size + 0 ≤ w1.heap.size := by rw [hw1]; simp
    have e1 : Below w.heap.size w w1 := by rw [hw1]; (repeat (first | with_reducible exact Below.refl _ _ | with_reducible assumption | with_reducible refine Below.drew ?_ | with_reducible refine bdrewN ?_ _ | ((with_reducible refine balloc ?_ ?_ _); (focus (first | with_reducible exact Nat.le_refl _ | (simp; done) | omega | (simp; omega) | exact Nat.le_refl _))) | ((with_reducible refine bset ?_ ?_ _); (focus (first | with_reducible exact Nat.le_refl _ | (simp; done) | omega | (simp; omega) | exact Nat.le_refl _)))))
    have tA1 := hA.keep e1 (by omega)
    clear hw1
    refine (szLinS_no false 0 w.heap.size _ ls 1048576 _ tA1 (by omega) (by omega) (by omega) (by omega)).mono ?_; rintro e w2 ⟨rfl, f2⟩
    have b2 := b1.trans (f2.mono (by omega))
    have z2 := f2.size
    have tA2 := tA1.keep f2 (by omega)
    clear tA1
    go_wp2_with fail
    go_ret
    exact ⟨rfl, b2⟩
  have nL : ls.length ≤ 1048576 := by unfold szLs at hl; omega
  have hE0 : ∀ t ∈ ls, t.length ≤ 1048576 := fun t ht => by have := tot_memP (f := List.length) ht; unfold szLs at hl; omega
  have HE := Lib.hid hE0
  clear hE0
  have hT : tot fL ls ≤ 2097152 := by rw [tot_fL]; unfold szLs at hl; omega
  have nF := packR_len ls
  obtain ⟨F, ok, hF⟩ : ∃ F ok, packR ls = (F, ok) := ⟨_, _, rfl⟩
  have q0 : 0 ≤ (1048576 : Int) - (szLs ls : Nat) := by omega
  have SP : Hid (∀ (own : Bool) (lo hi : Nat) (v : Value) (w : World), LinS own lo hi w v ls → hi ≤ w.heap.size → Calls Try.prog 41 #[v] w fun e w' => ∃ u, e = .returned (.tuple #[.agg #[u], .bool ok]) ∧ Below w.heap.size w w' ∧ Terms true w.heap.size w'.heap.size w' u F) := Lib.hid (fun own lo hi v w t h => by have := pack_spec own lo hi v ls w t h nL; rw [hF] at this; exact this)
  have IM : Hid (∀ (own : Bool) (lo hi : Nat) (v : Value) (w : World), LinS own lo hi w v ls → hi ≤ w.heap.size → Calls Try.prog 43 #[v] w fun e w' => ∃ u, e = .returned (.tuple #[.agg #[u], .bool ok]) ∧ Below w.heap.size w w' ∧ Terms true w.heap.size w'.heap.size w' u F) := Lib.hid (fun own lo hi v w t h => by have := pack_impl own lo hi v ls w t h nL; rw [hF] at this; exact this)
  rw [hF] at nF
  simp only at nF
  clear hF
  go_enter Try.func10, Try.ntmps10
  go_wp2_with fail
  refine name_call fun w1 hw1 => ?_
  have b1 : Below w.heap.size w w1 := by rw [hw1]; (repeat (first | with_reducible exact Below.refl _ _ | with_reducible assumption | with_reducible refine Below.drew ?_ | with_reducible refine bdrewN ?_ _ | ((with_reducible refine balloc ?_ ?_ _); (focus (first | with_reducible exact Nat.le_refl _ | (simp; done) | omega | (simp; omega) | exact Nat.le_refl _))) | ((with_reducible refine bset ?_ ?_ _); (focus (first | with_reducible exact Nat.le_refl _ | (simp; done) | omega | (simp; omega) | exact Nat.le_refl _)))))
  have z1 : w.heap.size + 0 ≤ w1.heap.size := by rw [hw1]; simp
  have e1 : Below w.heap.size w w1 := by rw [hw1]; (repeat (first | with_reducible exact Below.refl _ _ | with_reducible assumption | with_reducible refine Below.drew ?_ | with_reducible refine bdrewN ?_ _ | ((with_reducible refine balloc ?_ ?_ _); (focus (first | with_reducible exact Nat.le_refl _ | (simp; done) | omega | (simp; omega) | exact Nat.le_refl _))) | ((with_reducible refine bset ?_ ?_ _); (focus (first | with_reducible exact Nat.le_refl _ | (simp; done) | omega | (simp; omega) | exact Nat.le_refl _)))))
  have tA1 := hA.keep e1 (by omega)
  clear hw1
  refine (szLinS_ok false 0 w.heap.size _ ls 1048576 _ tA1 (by omega) (by omega) (by omega)).mono ?_; rintro e w2 ⟨rfl, f2⟩
  have b2 := b1.trans (f2.mono (by omega))
  have z2 := f2.size
  have tA2 := tA1.keep f2 (by omega)
  clear tA1
  go_wp2_with fail
  refine name_call fun w3 hw3 => ?_
  have b3 : Below w.heap.size w w3 := by rw [hw3]; (repeat (first | with_reducible exact Below.refl _ _ | with_reducible assumption | with_reducible refine Below.drew ?_ | with_reducible refine bdrewN ?_ _ | ((with_reducible refine balloc ?_ ?_ _); (focus (first | with_reducible exact Nat.le_refl _ | (simp; done) | omega | (simp; omega) | exact Nat.le_refl _))) | ((with_reducible refine bset ?_ ?_ _); (focus (first | with_reducible exact Nat.le_refl _ | (simp; done) | omega | (simp; omega) | exact Nat.le_refl _)))))
  have z3 : w2.heap.size + 0 ≤ w3.heap.size := by rw [hw3]; simp
  have e3 : Below w2.heap.size w2 w3 := by rw [hw3]; (repeat (first | with_reducible exact Below.refl _ _ | with_reducible assumption | with_reducible refine Below.drew ?_ | with_reducible refine bdrewN ?_ _ | ((with_reducible refine balloc ?_ ?_ _); (focus (first | with_reducible exact Nat.le_refl _ | (simp; done) | omega | (simp; omega) | exact Nat.le_refl _))) | ((with_reducible refine bset ?_ ?_ _); (focus (first | with_reducible exact Nat.le_refl _ | (simp; done) | omega | (simp; omega) | exact Nat.le_refl _)))))
  have tA3 := tA2.keep e3 (by omega)
  clear hw3 tA2
  refine (toLinS_any false 0 w.heap.size _ ls _ tA3 (by omega) nL HE.out).mono ?_; rintro e w4 ⟨uM, rfl, f4, q4⟩
  have b4 := b3.trans (f4.mono (by omega))
  have z4 := f4.size
  have tA4 := tA3.keep f4 (by omega)
  clear tA3
  obtain ⟨aM, kM, rfl, lM, bM⟩ := q4.shape
  go_wp2_with fail
  refine name_call fun w5 hw5 => ?_
  have b5 : Below w.heap.size w w5 := by rw [hw5]; (repeat (first | with_reducible exact Below.refl _ _ | with_reducible assumption | with_reducible refine Below.drew ?_ | with_reducible refine bdrewN ?_ _ | ((with_reducible refine balloc ?_ ?_ _); (focus (first | with_reducible exact Nat.le_refl _ | (simp; done) | omega | (simp; omega) | exact Nat.le_refl _))) | ((with_reducible refine bset ?_ ?_ _); (focus (first | with_reducible exact Nat.le_refl _ | (simp; done) | omega | (simp; omega) | exact Nat.le_refl _)))))
  have z5 : w4.heap.size + 0 ≤ w5.heap.size := by rw [hw5]; simp
  have e5 : Below w4.heap.size w4 w5 := by rw [hw5]; (repeat (first | with_reducible exact Below.refl _ _ | with_reducible assumption | with_reducible refine Below.drew ?_ | with_reducible refine bdrewN ?_ _ | ((with_reducible refine balloc ?_ ?_ _); (focus (first | with_reducible exact Nat.le_refl _ | (simp; done) | omega | (simp; omega) | exact Nat.le_refl _))) | ((with_reducible refine bset ?_ ?_ _); (focus (first | with_reducible exact Nat.le_refl _ | (simp; done) | omega | (simp; omega) | exact Nat.le_refl _)))))
  have tA5 := tA4.keep e5 (by omega)
  have tM5 := q4.keep e5 (by omega)
  clear hw5 tA4
  refine (SP.out _ _ _ _ _ tM5 (by omega)).mono ?_; rintro e w6 ⟨uW, rfl, f6, q6⟩
  have b6 := b5.trans (f6.mono (by omega))
  have z6 := f6.size
  have tA6 := tA5.keep f6 (by omega)
  have tM6 := tM5.keep f6 (by omega)
  clear tA5 tM5
  obtain ⟨aW, kW, rfl, lW, bW⟩ := q6.shape
  clear tM6
  go_wp2_with fail
  refine name_call fun w7 hw7 => ?_
  have b7 : Below w.heap.size w w7 := by rw [hw7]; (repeat (first | with_reducible exact Below.refl _ _ | with_reducible assumption | with_reducible refine Below.drew ?_ | with_reducible refine bdrewN ?_ _ | ((with_reducible refine balloc ?_ ?_ _); (focus (first | with_reducible exact Nat.le_refl _ | (simp; done) | omega | (simp; omega) | exact Nat.le_refl _))) | ((with_reducible refine bset ?_ ?_ _); (focus (first | with_reducible exact Nat.le_refl _ | (simp; done) | omega | (simp; omega) | exact Nat.le_refl _)))))
  have z7 : w6.heap.size + 1 ≤ w7.heap.size := by rw [hw7]; simp
  have e7 : Below w6.heap.size w6 w7 := by rw [hw7]; (repeat (first | with_reducible exact Below.refl _ _ | with_reducible assumption | with_reducible refine Below.drew ?_ | with_reducible refine bdrewN ?_ _ | ((with_reducible refine balloc ?_ ?_ _); (focus (first | with_reducible exact Nat.le_refl _ | (simp; done) | omega | (simp; omega) | exact Nat.le_refl _))) | ((with_reducible refine bset ?_ ?_ _); (focus (first | with_reducible exact Nat.le_refl _ | (simp; done) | omega | (simp; omega) | exact Nat.le_refl _)))))
  have cWb7 : w7.cell? ⟨w6.heap.size, 0, none⟩ = some (.slice aW F.length kW) := by rw [hw7]; first | (simp; done) | go_simp
  have tA7 := tA6.keep e7 (by omega)
  have tW7 := q6.keep e7 (by omega)
  clear hw7 tA6
  refine (toLinS_any false 0 w.heap.size _ ls _ tA7 (by omega) nL HE.out).mono ?_; rintro e w8 ⟨uX, rfl, f8, q8⟩
  have b8 := b7.trans (f8.mono (by omega))
  have z8 := f8.size
  have cWb8 := cell_keep f8 cWb7
  have tA8 := tA7.keep f8 (by omega)
  have tW8 := tW7.keep f8 (by omega)
  clear cWb7 tA7 tW7
  obtain ⟨aX, kX, rfl, lX, bX⟩ := q8.shape
  have lcWb8 : w6.heap.size < w8.heap.size := World.block_lt_of_cell? _ _ cWb8
  go_wp2_with fail
  refine name_call fun w9 hw9 => ?_
  have b9 : Below w.heap.size w w9 := by rw [hw9]; (repeat (first | with_reducible exact Below.refl _ _ | with_reducible assumption | with_reducible refine Below.drew ?_ | with_reducible refine bdrewN ?_ _ | ((with_reducible refine balloc ?_ ?_ _); (focus (first | with_reducible exact Nat.le_refl _ | (simp; done) | omega | (simp; omega) | exact Nat.le_refl _))) | ((with_reducible refine bset ?_ ?_ _); (focus (first | with_reducible exact Nat.le_refl _ | (simp; done) | omega | (simp; omega) | exact Nat.le_refl _)))))
  have z9 : w8.heap.size + 0 ≤ w9.heap.size := by rw [hw9]; simp
  have e9 : Below w8.heap.size w8 w9 := by rw [hw9]; (repeat (first | with_reducible exact Below.refl _ _ | with_reducible assumption | with_reducible refine Below.drew ?_ | with_reducible refine bdrewN ?_ _ | ((with_reducible refine balloc ?_ ?_ _); (focus (first | with_reducible exact Nat.le_refl _ | (simp; done) | omega | (simp; omega) | exact Nat.le_refl _))) | ((with_reducible refine bset ?_ ?_ _); (focus (first | with_reducible exact Nat.le_refl _ | (simp; done) | omega | (simp; omega) | exact Nat.le_refl _)))))
  have cWb9 := cell_keep e9 cWb8
  have tA9 := tA8.keep e9 (by omega)
  have tW9 := tW8.keep e9 (by omega)
  have tX9 := q8.keep e9 (by omega)
  clear hw9 lcWb8 cWb8 tA8 tW8
  refine (IM.out _ _ _ _ _ tX9 (by omega)).mono ?_; rintro e w10 ⟨uG, rfl, f10, q10⟩
  have b10 := b9.trans (f10.mono (by omega))
  have z10 := f10.size
  have cWb10 := cell_keep f10 cWb9
  have tA10 := tA9.keep f10 (by omega)
  have tW10 := tW9.keep f10 (by omega)
  have tX10 := tX9.keep f10 (by omega)
  clear cWb9 tA9 tW9 tX9
  obtain ⟨aG, kG, rfl, lG, bG⟩ := q10.shape
  have lcWb10 : w6.heap.size < w10.heap.size := World.block_lt_of_cell? _ _ cWb10
  go_wp2_with fail
  refine name_call fun w11 hw11 => ?_
  have b11 : Below w.heap.size w w11 := by rw [hw11]; (repeat (first | with_reducible exact Below.refl _ _ | with_reducible assumption | with_reducible refine Below.drew ?_ | with_reducible refine bdrewN ?_ _ | ((with_reducible refine balloc ?_ ?_ _); (focus (first | with_reducible exact Nat.le_refl _ | (simp; done) | omega | (simp; omega) | exact Nat.le_refl _))) | ((with_reducible refine bset ?_ ?_ _); (focus (first | with_reducible exact Nat.le_refl _ | (simp; done) | omega | (simp; omega) | exact Nat.le_refl _)))))
  have z11 : w10.heap.size + 1 ≤ w11.heap.size := by rw [hw11]; simp
  have e11 : Below w10.heap.size w10 w11 := by rw [hw11]; (repeat (first | with_reducible exact Below.refl _ _ | with_reducible assumption | with_reducible refine Below.drew ?_ | with_reducible refine bdrewN ?_ _ | ((with_reducible refine balloc ?_ ?_ _); (focus (first | with_reducible exact Nat.le_refl _ | (simp; done) | omega | (simp; omega) | exact Nat.le_refl _))) | ((with_reducible refine bset ?_ ?_ _); (focus (first | with_reducible exact Nat.le_refl _ | (simp; done) | omega | (simp; omega) | exact Nat.le_refl _)))))
  have cWb11 := cell_keep e11 cWb10
  have cGb11 : w11.cell? ⟨w10.heap.size, 0, none⟩ = some (.slice aG F.length kG) := by rw [hw11]; first | (simp; done) | go_simp
  have tA11 := tA10.keep e11 (by omega)
  have tW11 := tW10.keep e11 (by omega)
  have tX11 := tX10.keep e11 (by omega)
  have tG11 := q10.keep e11 (by omega)
  clear hw11 lcWb10 cWb10 tA10 tW10 tX10
  refine (eqLin_same _ _ _ _ _ _ _ _ F _ tG11 tW11 (by omega) (by omega)).mono ?_; rintro e w12 ⟨rfl, f12⟩
  have b12 := b11.trans (f12.mono (by omega))
  have z12 := f12.size
  have cWb12 := cell_keep f12 cWb11
  have cGb12 := cell_keep f12 cGb11
  have tA12 := tA11.keep f12 (by omega)
  have tW12 := tW11.keep f12 (by omega)
  have tX12 := tX11.keep f12 (by omega)
  have tG12 := tG11.keep f12 (by omega)
  clear cWb11 cGb11 tA11 tW11 tX11 tG11
  have lcWb12 : w6.heap.size < w12.heap.size := World.block_lt_of_cell? _ _ cWb12
  have lcGb12 : w10.heap.size < w12.heap.size := World.block_lt_of_cell? _ _ cGb12
  go_wp2_with fail
  refine name_call fun w13 hw13 => ?_
  have b13 : Below w.heap.size w w13 := by rw [hw13]; (repeat (first | with_reducible exact Below.refl _ _ | with_reducible assumption | with_reducible refine Below.drew ?_ | with_reducible refine bdrewN ?_ _ | ((with_reducible refine balloc ?_ ?_ _); (focus (first | with_reducible exact Nat.le_refl _ | (simp; done) | omega | (simp; omega) | exact Nat.le_refl _))) | ((with_reducible refine bset ?_ ?_ _); (focus (first | with_reducible exact Nat.le_refl _ | (simp; done) | omega | (simp; omega) | exact Nat.le_refl _)))))
  have z13 : w12.heap.size + 0 ≤ w13.heap.size := by rw [hw13]; simp
  have e13 : Below w12.heap.size w12 w13 := by rw [hw13]; (repeat (first | with_reducible exact Below.refl _ _ | with_reducible assumption | with_reducible refine Below.drew ?_ | with_reducible refine bdrewN ?_ _ | ((with_reducible refine balloc ?_ ?_ _); (focus (first | with_reducible exact Nat.le_refl _ | (simp; done) | omega | (simp; omega) | exact Nat.le_refl _))) | ((with_reducible refine bset ?_ ?_ _); (focus (first | with_reducible exact Nat.le_refl _ | (simp; done) | omega | (simp; omega) | exact Nat.le_refl _)))))
  have cWb13 := cell_keep e13 cWb12
  have cGb13 := cell_keep e13 cGb12
  have tA13 := tA12.keep e13 (by omega)
  have tW13 := tW12.keep e13 (by omega)
  have tX13 := tX12.keep e13 (by omega)
  have tG13 := tG12.keep e13 (by omega)
  clear hw13 lcWb12 lcGb12 cWb12 cGb12 tA12 tW12 tX12 tG12
  refine (toLinS_any false 0 w.heap.size _ ls _ tA13 (by omega) nL HE.out).mono ?_; rintro e w14 ⟨uY, rfl, f14, q14⟩
  have b14 := b13.trans (f14.mono (by omega))
  have z14 := f14.size
  have cWb14 := cell_keep f14 cWb13
  have cGb14 := cell_keep f14 cGb13
  have tA14 := tA13.keep f14 (by omega)
  have tW14 := tW13.keep f14 (by omega)
  have tX14 := tX13.keep f14 (by omega)
  have tG14 := tG13.keep f14 (by omega)
  clear cWb13 cGb13 tA13 tW13 tX13 tG13
  obtain ⟨aY, kY, rfl, lY, bY⟩ := q14.shape
  have lcWb14 : w6.heap.size < w14.heap.size := World.block_lt_of_cell? _ _ cWb14
  have lcGb14 : w10.heap.size < w14.heap.size := World.block_lt_of_cell? _ _ cGb14
  go_wp2_with fail
  refine name_call fun w15 hw15 => ?_
  have b15 : Below w.heap.size w w15 := by rw [hw15]; (repeat (first | with_reducible exact Below.refl _ _ | with_reducible assumption | with_reducible refine Below.drew ?_ | with_reducible refine bdrewN ?_ _ | ((with_reducible refine balloc ?_ ?_ _); (focus (first | with_reducible exact Nat.le_refl _ | (simp; done) | omega | (simp; omega) | exact Nat.le_refl _))) | ((with_reducible refine bset ?_ ?_ _); (focus (first | with_reducible exact Nat.le_refl _ | (simp; done) | omega | (simp; omega) | exact Nat.le_refl _)))))
  have z15 : w14.heap.size + 0 ≤ w15.heap.size := by rw [hw15]; simp
  have e15 : Below w14.heap.size w14 w15 := by rw [hw15]; (repeat (first | with_reducible exact Below.refl _ _ | with_reducible assumption | with_reducible refine Below.drew ?_ | with_reducible refine bdrewN ?_ _ | ((with_reducible refine balloc ?_ ?_ _); (focus (first | with_reducible exact Nat.le_refl _ | (simp; done) | omega | (simp; omega) | exact Nat.le_refl _))) | ((with_reducible refine bset ?_ ?_ _); (focus (first | with_reducible exact Nat.le_refl _ | (simp; done) | omega | (simp; omega) | exact Nat.le_refl _)))))
  have cWb15 := cell_keep e15 cWb14
  have cGb15 := cell_keep e15 cGb14
  have tA15 := tA14.keep e15 (by omega)
  have tW15 := tW14.keep e15 (by omega)
  have tX15 := tX14.keep e15 (by omega)
  have tG15 := tG14.keep e15 (by omega)
  have tY15 := q14.keep e15 (by omega)
  clear hw15 lcWb14 lcGb14 cWb14 cGb14 tA14 tW14 tX14 tG14
  refine (eqLinS_same _ _ _ _ _ _ _ _ ls _ tX15 tY15 (by omega) (by omega)).mono ?_; rintro e w16 ⟨rfl, f16⟩
  have b16 := b15.trans (f16.mono (by omega))
  have z16 := f16.size
  have cWb16 := cell_keep f16 cWb15
  have cGb16 := cell_keep f16 cGb15
  have tA16 := tA15.keep f16 (by omega)
  have tW16 := tW15.keep f16 (by omega)
  have tX16 := tX15.keep f16 (by omega)
  have tG16 := tG15.keep f16 (by omega)
  have tY16 := tY15.keep f16 (by omega)
  clear cWb15 cGb15 tA15 tW15 tX15 tG15 tY15
  clear tY16
  have lcWb16 : w6.heap.size < w16.heap.size := World.block_lt_of_cell? _ _ cWb16
  have lcGb16 : w10.heap.size < w16.heap.size := World.block_lt_of_cell? _ _ cGb16
  go_wp2_with fail
  refine name_call fun w17 hw17 => ?_
  have b17 : Below w.heap.size w w17 := by rw [hw17]; (repeat (first | with_reducible exact Below.refl _ _ | with_reducible assumption | with_reducible refine Below.drew ?_ | with_reducible refine bdrewN ?_ _ | ((with_reducible refine balloc ?_ ?_ _); (focus (first | with_reducible exact Nat.le_refl _ | (simp; done) | omega | (simp; omega) | exact Nat.le_refl _))) | ((with_reducible refine bset ?_ ?_ _); (focus (first | with_reducible exact Nat.le_refl _ | (simp; done) | omega | (simp; omega) | exact Nat.le_refl _)))))
  have z17 : w16.heap.size + 0 ≤ w17.heap.size := by rw [hw17]; simp
  have e17 : Below w16.heap.size w16 w17 := by rw [hw17]; (repeat (first | with_reducible exact Below.refl _ _ | with_reducible assumption | with_reducible refine Below.drew ?_ | with_reducible refine bdrewN ?_ _ | ((with_reducible refine balloc ?_ ?_ _); (focus (first | with_reducible exact Nat.le_refl _ | (simp; done) | omega | (simp; omega) | exact Nat.le_refl _))) | ((with_reducible refine bset ?_ ?_ _); (focus (first | with_reducible exact Nat.le_refl _ | (simp; done) | omega | (simp; omega) | exact Nat.le_refl _)))))
  have cWb17 := cell_keep e17 cWb16
  have cGb17 := cell_keep e17 cGb16
  have tA17 := tA16.keep e17 (by omega)
  have tW17 := tW16.keep e17 (by omega)
  have tX17 := tX16.keep e17 (by omega)
  have tG17 := tG16.keep e17 (by omega)
  clear hw17 lcWb16 lcGb16 cWb16 cGb16 tA16 tW16 tX16 tG16
  refine (markLinS_any _ _ _ ls 1 _ tX17 (by omega) (by omega)).mono ?_; rintro e w18 ⟨rfl, f18, q18⟩
  have d18 : Below w.heap.size w17 w18 := f18.below (by omega) (by omega)
  have b18 := b17.trans d18
  have z18 := f18.size
  have cWb18 := (f18.cell (b := w6.heap.size) (by omega) (by omega) 0).trans cWb17
  have cGb18 := (f18.cell (b := w10.heap.size) (by omega) (by omega) 0).trans cGb17
  have tA18 := tA17.keep d18 (Nat.le_refl _)
  have tW18 := tW17.only f18 (by omega) (by omega)
  have tG18 := tG17.only f18 (by omega) (by omega)
  clear cWb17 cGb17 tA17 tW17 tX17 tG17
  have mk0 : ¬ ((1 + tot fL ls : Nat) : Int) < 0 := by omega
  have lcWb18 : w6.heap.size < w18.heap.size := World.block_lt_of_cell? _ _ cWb18
  have lcGb18 : w10.heap.size < w18.heap.size := World.block_lt_of_cell? _ _ cGb18
  go_wp2_with fail
  refine name_call fun w19 hw19 => ?_
  have b19 : Below w.heap.size w w19 := by rw [hw19]; (repeat (first | with_reducible exact Below.refl _ _ | with_reducible assumption | with_reducible refine Below.drew ?_ | with_reducible refine bdrewN ?_ _ | ((with_reducible refine balloc ?_ ?_ _); (focus (first | with_reducible exact Nat.le_refl _ | (simp; done) | omega | (simp; omega) | exact Nat.le_refl _))) | ((with_reducible refine bset ?_ ?_ _); (focus (first | with_reducible exact Nat.le_refl _ | (simp; done) | omega | (simp; omega) | exact Nat.le_refl _)))))
  have z19 : w18.heap.size + 0 ≤ w19.heap.size := by rw [hw19]; simp
  have e19 : Below w18.heap.size w18 w19 := by rw [hw19]; (repeat (first | with_reducible exact Below.refl _ _ | with_reducible assumption | with_reducible refine Below.drew ?_ | with_reducible refine bdrewN ?_ _ | ((with_reducible refine balloc ?_ ?_ _); (focus (first | with_reducible exact Nat.le_refl _ | (simp; done) | omega | (simp; omega) | exact Nat.le_refl _))) | ((with_reducible refine bset ?_ ?_ _); (focus (first | with_reducible exact Nat.le_refl _ | (simp; done) | omega | (simp; omega) | exact Nat.le_refl _)))))
  have cWb19 := cell_keep e19 cWb18
  have cGb19 := cell_keep e19 cGb18
  have tA19 := tA18.keep e19 (by omega)
  have tW19 := tW18.keep e19 (by omega)
  have tX19 := q18.keep e19 (by omega)
  have tG19 := tG18.keep e19 (by omega)
  clear hw19 lcWb18 lcGb18 cWb18 cGb18 tA18 tW18 tG18
  refine (eqLin_same _ _ _ _ _ _ _ _ F _ tG19 tW19 (by omega) (by omega)).mono ?_; rintro e w20 ⟨rfl, f20⟩
  have b20 := b19.trans (f20.mono (by omega))
  have z20 := f20.size
  have cWb20 := cell_keep f20 cWb19
  have cGb20 := cell_keep f20 cGb19
  have tA20 := tA19.keep f20 (by omega)
  have tW20 := tW19.keep f20 (by omega)
  have tX20 := tX19.keep f20 (by omega)
  have tG20 := tG19.keep f20 (by omega)
  clear cWb19 cGb19 tA19 tW19 tX19 tG19
  clear tX20
  have lcWb20 : w6.heap.size < w20.heap.size := World.block_lt_of_cell? _ _ cWb20
  have lcGb20 : w10.heap.size < w20.heap.size := World.block_lt_of_cell? _ _ cGb20
  go_wp2_with fail
  refine name_call fun w21 hw21 => ?_
  have b21 : Below w.heap.size w w21 := by rw [hw21]; (repeat (first | with_reducible exact Below.refl _ _ | with_reducible assumption | with_reducible refine Below.drew ?_ | with_reducible refine bdrewN ?_ _ | ((with_reducible refine balloc ?_ ?_ _); (focus (first | with_reducible exact Nat.le_refl _ | (simp; done) | omega | (simp; omega) | exact Nat.le_refl _))) | ((with_reducible refine bset ?_ ?_ _); (focus (first | with_reducible exact Nat.le_refl _ | (simp; done) | omega | (simp; omega) | exact Nat.le_refl _)))))
  have z21 : w20.heap.size + 0 ≤ w21.heap.size := by rw [hw21]; simp
  have e21 : Below w20.heap.size w20 w21 := by rw [hw21]; (repeat (first | with_reducible exact Below.refl _ _ | with_reducible assumption | with_reducible refine Below.drew ?_ | with_reducible refine bdrewN ?_ _ | ((with_reducible refine balloc ?_ ?_ _); (focus (first | with_reducible exact Nat.le_refl _ | (simp; done) | omega | (simp; omega) | exact Nat.le_refl _))) | ((with_reducible refine bset ?_ ?_ _); (focus (first | with_reducible exact Nat.le_refl _ | (simp; done) | omega | (simp; omega) | exact Nat.le_refl _)))))
  have cWb21 := cell_keep e21 cWb20
  have cGb21 := cell_keep e21 cGb20
  have tA21 := tA20.keep e21 (by omega)
  have tW21 := tW20.keep e21 (by omega)
  have tG21 := tG20.keep e21 (by omega)
  clear hw21 lcWb20 lcGb20 cWb20 cGb20 tA20 tW20 tG20
  refine (markLin_any _ _ _ F 1 _ tG21 (by omega) (by omega) (by omega)).mono ?_; rintro e w22 ⟨rfl, f22, q22⟩
  have d22 : Below w.heap.size w21 w22 := f22.below (by omega) (by omega)
  have b22 := b21.trans d22
  have z22 := f22.size
  have cWb22 := (f22.cell (b := w6.heap.size) (by omega) (by omega) 0).trans cWb21
  have cGb22 := (f22.cell (b := w10.heap.size) (by omega) (by omega) 0).trans cGb21
  have tA22 := tA21.keep d22 (Nat.le_refl _)
  have tW22 := tW21.only f22 (by omega) (by omega)
  clear cWb21 cGb21 tA21 tW21 tG21
  have lcWb22 : w6.heap.size < w22.heap.size := World.block_lt_of_cell? _ _ cWb22
  have lcGb22 : w10.heap.size < w22.heap.size := World.block_lt_of_cell? _ _ cGb22
  go_wp2_with fail
  refine name_call fun w23 hw23 => ?_
  have b23 : Below w.heap.size w w23 := by rw [hw23]; (repeat (first | with_reducible exact Below.refl _ _ | with_reducible assumption | with_reducible refine Below.drew ?_ | with_reducible refine bdrewN ?_ _ | ((with_reducible refine balloc ?_ ?_ _); (focus (first | with_reducible exact Nat.le_refl _ | (simp; done) | omega | (simp; omega) | exact Nat.le_refl _))) | ((with_reducible refine bset ?_ ?_ _); (focus (first | with_reducible exact Nat.le_refl _ | (simp; done) | omega | (simp; omega) | exact Nat.le_refl _)))))
  have z23 : w22.heap.size + 0 ≤ w23.heap.size := by rw [hw23]; simp
  have e23 : Below w22.heap.size w22 w23 := by rw [hw23]; (repeat (first | with_reducible exact Below.refl _ _ | with_reducible assumption | with_reducible refine Below.drew ?_ | with_reducible refine bdrewN ?_ _ | ((with_reducible refine balloc ?_ ?_ _); (focus (first | with_reducible exact Nat.le_refl _ | (simp; done) | omega | (simp; omega) | exact Nat.le_refl _))) | ((with_reducible refine bset ?_ ?_ _); (focus (first | with_reducible exact Nat.le_refl _ | (simp; done) | omega | (simp; omega) | exact Nat.le_refl _)))))
  have cWb23 := cell_keep e23 cWb22
  have cGb23 := cell_keep e23 cGb22
  have tA23 := tA22.keep e23 (by omega)
  have tW23 := tW22.keep e23 (by omega)
  have tG23 := q22.keep e23 (by omega)
  clear hw23 lcWb22 lcGb22 cWb22 cGb22 tA22 tW22
  refine (heldLin_any true _ _ _ F.length 1 _ tG23 (by omega) (by omega) (by omega)).mono ?_; rintro e w24 ⟨rfl, f24⟩
  have b24 := b23.trans (f24.mono (by omega))
  have z24 := f24.size
  have cWb24 := cell_keep f24 cWb23
  have cGb24 := cell_keep f24 cGb23
  have tA24 := tA23.keep f24 (by omega)
  have tW24 := tW23.keep f24 (by omega)
  have tG24 := tG23.keep f24 (by omega)
  clear cWb23 cGb23 tA23 tW23 tG23
  have lcWb24 : w6.heap.size < w24.heap.size := World.block_lt_of_cell? _ _ cWb24
  have lcGb24 : w10.heap.size < w24.heap.size := World.block_lt_of_cell? _ _ cGb24
  go_wp2_with fail
  refine name_call fun w25 hw25 => ?_
  have b25 : Below w.heap.size w w25 := by rw [hw25]; (repeat (first | with_reducible exact Below.refl _ _ | with_reducible assumption | with_reducible refine Below.drew ?_ | with_reducible refine bdrewN ?_ _ | ((with_reducible refine balloc ?_ ?_ _); (focus (first | with_reducible exact Nat.le_refl _ | (simp; done) | omega | (simp; omega) | exact Nat.le_refl _))) | ((with_reducible refine bset ?_ ?_ _); (focus (first | with_reducible exact Nat.le_refl _ | (simp; done) | omega | (simp; omega) | exact Nat.le_refl _)))))
  have z25 : w24.heap.size + 0 ≤ w25.heap.size := by rw [hw25]; simp
  have e25 : Below w24.heap.size w24 w25 := by rw [hw25]; (repeat (first | with_reducible exact Below.refl _ _ | with_reducible assumption | with_reducible refine Below.drew ?_ | with_reducible refine bdrewN ?_ _ | ((with_reducible refine balloc ?_ ?_ _); (focus (first | with_reducible exact Nat.le_refl _ | (simp; done) | omega | (simp; omega) | exact Nat.le_refl _))) | ((with_reducible refine bset ?_ ?_ _); (focus (first | with_reducible exact Nat.le_refl _ | (simp; done) | omega | (simp; omega) | exact Nat.le_refl _)))))
  have cWb25 := cell_keep e25 cWb24
  have cGb25 := cell_keep e25 cGb24
  have tA25 := tA24.keep e25 (by omega)
  have tW25 := tW24.keep e25 (by omega)
  have tG25 := tG24.keep e25 (by omega)
  clear hw25 lcWb24 lcGb24 cWb24 cGb24 tA24 tW24 tG24
  refine (toLinS_any false 0 w.heap.size _ ls _ tA25 (by omega) nL HE.out).mono ?_; rintro e w26 ⟨uN, rfl, f26, q26⟩
  have b26 := b25.trans (f26.mono (by omega))
  have z26 := f26.size
  have cWb26 := cell_keep f26 cWb25
  have cGb26 := cell_keep f26 cGb25
  have tA26 := tA25.keep f26 (by omega)
  have tW26 := tW25.keep f26 (by omega)
  have tG26 := tG25.keep f26 (by omega)
  clear cWb25 cGb25 tA25 tW25 tG25
  obtain ⟨aN, kN, rfl, lN, bN⟩ := q26.shape
  have lcWb26 : w6.heap.size < w26.heap.size := World.block_lt_of_cell? _ _ cWb26
  have lcGb26 : w10.heap.size < w26.heap.size := World.block_lt_of_cell? _ _ cGb26
  go_wp2_with fail
  refine name_call fun w27 hw27 => ?_
  have b27 : Below w.heap.size w w27 := by rw [hw27]; (repeat (first | with_reducible exact Below.refl _ _ | with_reducible assumption | with_reducible refine Below.drew ?_ | with_reducible refine bdrewN ?_ _ | ((with_reducible refine balloc ?_ ?_ _); (focus (first | with_reducible exact Nat.le_refl _ | (simp; done) | omega | (simp; omega) | exact Nat.le_refl _))) | ((with_reducible refine bset ?_ ?_ _); (focus (first | with_reducible exact Nat.le_refl _ | (simp; done) | omega | (simp; omega) | exact Nat.le_refl _)))))
  have z27 : w26.heap.size + 0 ≤ w27.heap.size := by rw [hw27]; simp
  have e27 : Below w26.heap.size w26 w27 := by rw [hw27]; (repeat (first | with_reducible exact Below.refl _ _ | with_reducible assumption | with_reducible refine Below.drew ?_ | with_reducible refine bdrewN ?_ _ | ((with_reducible refine balloc ?_ ?_ _); (focus (first | with_reducible exact Nat.le_refl _ | (simp; done) | omega | (simp; omega) | exact Nat.le_refl _))) | ((with_reducible refine bset ?_ ?_ _); (focus (first | with_reducible exact Nat.le_refl _ | (simp; done) | omega | (simp; omega) | exact Nat.le_refl _)))))
  have cWb27 := cell_keep e27 cWb26
  have cGb27 := cell_keep e27 cGb26
  have tA27 := tA26.keep e27 (by omega)
  have tW27 := tW26.keep e27 (by omega)
  have tG27 := tG26.keep e27 (by omega)
  have tN27 := q26.keep e27 (by omega)
  clear hw27 lcWb26 lcGb26 cWb26 cGb26 tA26 tW26 tG26
  refine (IM.out _ _ _ _ _ tN27 (by omega)).mono ?_; rintro e w28 ⟨uH, rfl, f28, q28⟩
  have b28 := b27.trans (f28.mono (by omega))
  have z28 := f28.size
  have cWb28 := cell_keep f28 cWb27
  have cGb28 := cell_keep f28 cGb27
  have tA28 := tA27.keep f28 (by omega)
  have tW28 := tW27.keep f28 (by omega)
  have tG28 := tG27.keep f28 (by omega)
  have tN28 := tN27.keep f28 (by omega)
  clear cWb27 cGb27 tA27 tW27 tG27 tN27
  obtain ⟨aH, kH, rfl, lH, bH⟩ := q28.shape
  clear tN28
  have lcWb28 : w6.heap.size < w28.heap.size := World.block_lt_of_cell? _ _ cWb28
  have lcGb28 : w10.heap.size < w28.heap.size := World.block_lt_of_cell? _ _ cGb28
  go_wp2_with fail
  refine name_call fun w29 hw29 => ?_
  have b29 : Below w.heap.size w w29 := by rw [hw29]; (repeat (first | with_reducible exact Below.refl _ _ | with_reducible assumption | with_reducible refine Below.drew ?_ | with_reducible refine bdrewN ?_ _ | ((with_reducible refine balloc ?_ ?_ _); (focus (first | with_reducible exact Nat.le_refl _ | (simp; done) | omega | (simp; omega) | exact Nat.le_refl _))) | ((with_reducible refine bset ?_ ?_ _); (focus (first | with_reducible exact Nat.le_refl _ | (simp; done) | omega | (simp; omega) | exact Nat.le_refl _)))))
  have z29 : w28.heap.size + 1 ≤ w29.heap.size := by rw [hw29]; simp
  have e29 : Below w28.heap.size w28 w29 := by rw [hw29]; (repeat (first | with_reducible exact Below.refl _ _ | with_reducible assumption | with_reducible refine Below.drew ?_ | with_reducible refine bdrewN ?_ _ | ((with_reducible refine balloc ?_ ?_ _); (focus (first | with_reducible exact Nat.le_refl _ | (simp; done) | omega | (simp; omega) | exact Nat.le_refl _))) | ((with_reducible refine bset ?_ ?_ _); (focus (first | with_reducible exact Nat.le_refl _ | (simp; done) | omega | (simp; omega) | exact Nat.le_refl _)))))
  have cWb29 := cell_keep e29 cWb28
  have cGb29 := cell_keep e29 cGb28
  have cHb29 : w29.cell? ⟨w28.heap.size, 0, none⟩ = some (.slice aH F.length kH) := by rw [hw29]; first | (simp; done) | go_simp
  have tA29 := tA28.keep e29 (by omega)
  have tW29 := tW28.keep e29 (by omega)
  have tG29 := tG28.keep e29 (by omega)
  have tH29 := q28.keep e29 (by omega)
  clear hw29 lcWb28 lcGb28 cWb28 cGb28 tA28 tW28 tG28
  refine (eqLin_same _ _ _ _ _ _ _ _ F _ tH29 tW29 (by omega) (by omega)).mono ?_; rintro e w30 ⟨rfl, f30⟩
  have b30 := b29.trans (f30.mono (by omega))
  have z30 := f30.size
  have cWb30 := cell_keep f30 cWb29
  have cGb30 := cell_keep f30 cGb29
  have cHb30 := cell_keep f30 cHb29
  have tA30 := tA29.keep f30 (by omega)
  have tW30 := tW29.keep f30 (by omega)
  have tG30 := tG29.keep f30 (by omega)
  have tH30 := tH29.keep f30 (by omega)
  clear cWb29 cGb29 cHb29 tA29 tW29 tG29 tH29
  have lcWb30 : w6.heap.size < w30.heap.size := World.block_lt_of_cell? _ _ cWb30
  have lcGb30 : w10.heap.size < w30.heap.size := World.block_lt_of_cell? _ _ cGb30
  have lcHb30 : w28.heap.size < w30.heap.size := World.block_lt_of_cell? _ _ cHb30
  go_wp2_with fail
  refine name_call fun w31 hw31 => ?_
  have b31 : Below w.heap.size w w31 := by rw [hw31]; (repeat (first | with_reducible exact Below.refl _ _ | with_reducible assumption | with_reducible refine Below.drew ?_ | with_reducible refine bdrewN ?_ _ | ((with_reducible refine balloc ?_ ?_ _); (focus (first | with_reducible exact Nat.le_refl _ | (simp; done) | omega | (simp; omega) | exact Nat.le_refl _))) | ((with_reducible refine bset ?_ ?_ _); (focus (first | with_reducible exact Nat.le_refl _ | (simp; done) | omega | (simp; omega) | exact Nat.le_refl _)))))
  have z31 : w30.heap.size + 0 ≤ w31.heap.size := by rw [hw31]; simp
  have e31 : Below w30.heap.size w30 w31 := by rw [hw31]; (repeat (first | with_reducible exact Below.refl _ _ | with_reducible assumption | with_reducible refine Below.drew ?_ | with_reducible refine bdrewN ?_ _ | ((with_reducible refine balloc ?_ ?_ _); (focus (first | with_reducible exact Nat.le_refl _ | (simp; done) | omega | (simp; omega) | exact Nat.le_refl _))) | ((with_reducible refine bset ?_ ?_ _); (focus (first | with_reducible exact Nat.le_refl _ | (simp; done) | omega | (simp; omega) | exact Nat.le_refl _)))))
  have cWb31 := cell_keep e31 cWb30
  have cGb31 := cell_keep e31 cGb30
  have cHb31 := cell_keep e31 cHb30
  have tA31 := tA30.keep e31 (by omega)
  have tW31 := tW30.keep e31 (by omega)
  have tG31 := tG30.keep e31 (by omega)
  have tH31 := tH30.keep e31 (by omega)
  clear hw31 lcWb30 lcGb30 lcHb30 cWb30 cGb30 cHb30 tA30 tW30 tG30 tH30
  refine (heldLin_any true _ _ _ F.length 1 _ tG31 (by omega) (by omega) (by omega)).mono ?_; rintro e w32 ⟨rfl, f32⟩
  have b32 := b31.trans (f32.mono (by omega))
  have z32 := f32.size
  have cWb32 := cell_keep f32 cWb31
  have cGb32 := cell_keep f32 cGb31
  have cHb32 := cell_keep f32 cHb31
  have tA32 := tA31.keep f32 (by omega)
  have tW32 := tW31.keep f32 (by omega)
  have tG32 := tG31.keep f32 (by omega)
  have tH32 := tH31.keep f32 (by omega)
  clear cWb31 cGb31 cHb31 tA31 tW31 tG31 tH31
  go_wp2_with fail
  go_ret
  exact ⟨rfl, b32⟩
end Go.Proofs.Yteekpdlkdpkegaa.L
