/- Exact laws of layer 2 (written by tools/genexact.py): the program's function and its model return the same, write into no argument, and own what they return. -/
import Derived.Test.YtpobbdibkhledaaSpecLin
import Derived.Deep.DeepCutAuto
namespace Go.Proofs.Ytpobbdibkhledaa.L
open Go.RowKit Go.Proofs.Ytpobbdibkhledaa.S
set_option linter.unusedVariables false
set_option linter.unusedSimpArgs false

theorem chain_step {X Y Z : World} (f : Below Y.heap.size Y Z) (h : Below X.heap.size X Y) : Below X.heap.size X Z := h.trans (f.mono h.size)
theorem keep2 {X W : World} {a b : Addr} {u v : Value} (h1 : X.cell? a = some u) (h2 : X.cell? b = some v) (be : Below X.heap.size X W) : W.cell? a = some u ∧ W.cell? b = some v ∧ Below X.heap.size X W := ⟨cell_keep be h1, cell_keep be h2, be⟩
/-- Where the ways through a drawn region meet: the answer lies in a box of its own. -/
def CutW (X : World) (F : List T) (ok : Bool) (s6 s7 : Value) (wx : World) : Prop :=
  ∃ g a k, s6 = .pointer (some ⟨g, 0, none⟩) ∧ s7 = .bool ok ∧ X.heap.size ≤ g ∧ wx.cell? ⟨g, 0, none⟩ = some (.slice a F.length k) ∧ Below X.heap.size X wx ∧ Terms true X.heap.size wx.heap.size wx (.slice a F.length k) F
theorem cutW_alloc {X Y W : World} {F : List T} {ok : Bool} {a : Option Addr} {k lo : Nat} {t : TypeId} (hXY : Below X.heap.size X Y) (b : Below Y.heap.size Y W) (r : Terms true lo W.heap.size W (.slice a F.length k) F) (h : X.heap.size ≤ lo) :
    CutW X F ok (.pointer (some ⟨W.heap.size, 0, none⟩)) (.bool ok) (W.alloc (.cells #[.slice a F.length k] t)) := by
  have b' := hXY.trans (b.mono hXY.size)
  have a1 : Below W.heap.size W (W.alloc (.cells #[.slice a F.length k] t)) := Below.alloc (Below.refl _ _) (Nat.le_refl _) _
  exact ⟨_, _, _, rfl, rfl, b'.size, by simp, Below.alloc b' b'.size _, (r.keep a1 (Nat.le_refl _)).mono h (by simp)⟩
theorem cutW_set {X Y W : World} {F : List T} {ok : Bool} {a : Option Addr} {k lo R : Nat} (hXY : Below X.heap.size X Y) (b : Below Y.heap.size Y W) (r : Terms true lo W.heap.size W (.slice a F.length k) F) (hR : R < lo) (h : X.heap.size ≤ R) (hs : (W.cell? ⟨R, 0, none⟩).isSome = true) :
    CutW X F ok (.pointer (some ⟨R, 0, none⟩)) (.bool ok) (W.setCell ⟨R, 0, none⟩ (.slice a F.length k)) := by
  have b' := hXY.trans (b.mono hXY.size)
  exact ⟨_, _, _, rfl, rfl, h, World.cell?_setCell_same' _ _ _ hs, Below.setCell b' h _, r.stored hR (by omega)⟩

set_option maxRecDepth 100000 in
set_option maxHeartbeats 6400000 in
theorem law_FnExactLinAdd (vA : Value) (tsA : List T) (vB : Value) (tsB : List T) (w : World) (hA : Terms false 0 w.heap.size w vA tsA) (hB : Terms false 0 w.heap.size w vB tsB) :
    Calls Try.prog 9 #[.agg #[vA], .agg #[vB]] w fun e w' => e = .returned (.bool true) ∧ Below w.heap.size w w' := by
  obtain ⟨aA, kA, rfl, laA, baA⟩ := hA.shape
  obtain ⟨aB, kB, rfl, laB, baB⟩ := hB.shape
  have hlenF : (lcomb 1 tsA tsB).length ≤ 4194304 := Nat.le_trans (lcomb_len 1 tsA tsB) (by omega)
  by_cases hlA : tsA.length ≤ 1048576
  case' neg =>
    have SA := szLin_any false 0 w.heap.size (.slice aA tsA.length kA) tsA (((1048576 : Nat)) : Int)
    rw [if_pos (by omega)] at SA
    have SZA := Lib.hid SA; clear SA
    go_enter Try.func9, Try.ntmps9
    go_wp2_with fail
    refine name_call fun w1 hw1 => ?_
    have b1 : Below w.heap.size w w1 := by rw [hw1]; (repeat (first | exact Below.refl _ _ | assumption | refine Below.drew ?_ | refine bdrewN ?_ _ | refine Below.alloc ?_ (by first | exact Nat.le_refl _ | (simp; done) | omega | (simp; omega)) _ | refine Below.setCell ?_ (by first | exact Nat.le_refl _ | (simp; done) | omega | (simp; omega)) _))
    have z1 : w.heap.size + 2 ≤ w1.heap.size := by rw [hw1]; simp
    have cBA1 : w1.cell? ⟨w.heap.size, 0, none⟩ = some (.slice aA tsA.length kA) := by rw [hw1]; simp
    have cBB1 : w1.cell? ⟨w.heap.size + 1, 0, none⟩ = some (.slice aB tsB.length kB) := by rw [hw1]; simp
    have tA1 := hA.keep b1 (Nat.le_refl _)
    have tB1 := hB.keep b1 (Nat.le_refl _)
    clear hw1
    refine (SZA.out _ tA1 (by omega) (by omega) (by omega)).mono ?_; rintro e w2 ⟨rfl, f2⟩
    have b2 := b1.trans (f2.mono (by omega))
    have z2 := f2.size
    have cBA2 := cell_keep f2 cBA1
    have cBB2 := cell_keep f2 cBB1
    have tA2 := tA1.keep f2 (by omega)
    have tB2 := tB1.keep f2 (by omega)
    clear cBA1 cBB1 tA1 tB1
    go_wp2_with fail
    go_ret
    exact ⟨rfl, by (repeat (first | exact Below.refl _ _ | assumption | refine Below.drew ?_ | refine bdrewN ?_ _ | refine Below.alloc ?_ (by first | exact Nat.le_refl _ | (simp; done) | omega | (simp; omega)) _ | refine Below.setCell ?_ (by first | exact Nat.le_refl _ | (simp; done) | omega | (simp; omega)) _))⟩
  by_cases hlB : tsB.length ≤ 1048576 - tsA.length
  case' neg =>
    have SA := szLin_any false 0 w.heap.size (.slice aA tsA.length kA) tsA (((1048576 : Nat)) : Int)
    rw [if_neg (by omega)] at SA
    rw [show (((1048576 : Nat)) : Int) - tsA.length = (((1048576 - tsA.length : Nat)) : Int) from by omega] at SA
    have SZA := Lib.hid SA; clear SA
    have SB := szLin_any false 0 w.heap.size (.slice aB tsB.length kB) tsB (((1048576 - tsA.length : Nat)) : Int)
    rw [if_pos (by omega)] at SB
    have SZB := Lib.hid SB; clear SB
    go_enter Try.func9, Try.ntmps9
    go_wp2_with fail
    refine name_call fun w1 hw1 => ?_
    have b1 : Below w.heap.size w w1 := by rw [hw1]; (repeat (first | exact Below.refl _ _ | assumption | refine Below.drew ?_ | refine bdrewN ?_ _ | refine Below.alloc ?_ (by first | exact Nat.le_refl _ | (simp; done) | omega | (simp; omega)) _ | refine Below.setCell ?_ (by first | exact Nat.le_refl _ | (simp; done) | omega | (simp; omega)) _))
    have z1 : w.heap.size + 2 ≤ w1.heap.size := by rw [hw1]; simp
    have cBA1 : w1.cell? ⟨w.heap.size, 0, none⟩ = some (.slice aA tsA.length kA) := by rw [hw1]; simp
    have cBB1 : w1.cell? ⟨w.heap.size + 1, 0, none⟩ = some (.slice aB tsB.length kB) := by rw [hw1]; simp
    have tA1 := hA.keep b1 (Nat.le_refl _)
    have tB1 := hB.keep b1 (Nat.le_refl _)
    clear hw1
    refine (SZA.out _ tA1 (by omega) (by omega) (by omega)).mono ?_; rintro e w2 ⟨rfl, f2⟩
    have b2 := b1.trans (f2.mono (by omega))
    have z2 := f2.size
    have cBA2 := cell_keep f2 cBA1
    have cBB2 := cell_keep f2 cBB1
    have tA2 := tA1.keep f2 (by omega)
    have tB2 := tB1.keep f2 (by omega)
    clear cBA1 cBB1 tA1 tB1
    go_wp2_with fail
    refine name_call fun w3 hw3 => ?_
    have b3 : Below w.heap.size w w3 := by rw [hw3]; (repeat (first | exact Below.refl _ _ | assumption | refine Below.drew ?_ | refine bdrewN ?_ _ | refine Below.alloc ?_ (by first | exact Nat.le_refl _ | (simp; done) | omega | (simp; omega)) _ | refine Below.setCell ?_ (by first | exact Nat.le_refl _ | (simp; done) | omega | (simp; omega)) _))
    have z3 : w2.heap.size + 0 ≤ w3.heap.size := by rw [hw3]; simp
    have cBA3 : w3.cell? ⟨w.heap.size, 0, none⟩ = some (.slice aA tsA.length kA) := by rw [hw3]; first | exact cBA2 | exact cBA2
    have cBB3 : w3.cell? ⟨w.heap.size + 1, 0, none⟩ = some (.slice aB tsB.length kB) := by rw [hw3]; first | exact cBB2 | exact cBB2
    have tA3 := tA2.keep (show Below w2.heap.size w2 w3 by rw [hw3]; (repeat (first | exact Below.refl _ _ | assumption | refine Below.drew ?_ | refine bdrewN ?_ _ | refine Below.alloc ?_ (by first | exact Nat.le_refl _ | (simp; done) | omega | (simp; omega)) _ | refine Below.setCell ?_ (by first | exact Nat.le_refl _ | (simp; done) | omega | (simp; omega)) _))) (by omega)
    have tB3 := tB2.keep (show Below w2.heap.size w2 w3 by rw [hw3]; (repeat (first | exact Below.refl _ _ | assumption | refine Below.drew ?_ | refine bdrewN ?_ _ | refine Below.alloc ?_ (by first | exact Nat.le_refl _ | (simp; done) | omega | (simp; omega)) _ | refine Below.setCell ?_ (by first | exact Nat.le_refl _ | (simp; done) | omega | (simp; omega)) _))) (by omega)
    clear hw3
    clear cBA2 cBB2 tA2 tB2
    refine (SZB.out _ tB3 (by omega) (by omega) (by omega)).mono ?_; rintro e w4 ⟨rfl, f4⟩
    have b4 := b3.trans (f4.mono (by omega))
    have z4 := f4.size
    have cBA4 := cell_keep f4 cBA3
    have cBB4 := cell_keep f4 cBB3
    have tA4 := tA3.keep f4 (by omega)
    have tB4 := tB3.keep f4 (by omega)
    clear cBA3 cBB3 tA3 tB3
    go_wp2_with fail
    go_ret
    exact ⟨rfl, by (repeat (first | exact Below.refl _ _ | assumption | refine Below.drew ?_ | refine bdrewN ?_ _ | refine Below.alloc ?_ (by first | exact Nat.le_refl _ | (simp; done) | omega | (simp; omega)) _ | refine Below.setCell ?_ (by first | exact Nat.le_refl _ | (simp; done) | omega | (simp; omega)) _))⟩
  have SA := szLin_any false 0 w.heap.size (.slice aA tsA.length kA) tsA (((1048576 : Nat)) : Int)
  rw [if_neg (by omega)] at SA
  rw [show (((1048576 : Nat)) : Int) - tsA.length = (((1048576 - tsA.length : Nat)) : Int) from by omega] at SA
  have SZA := Lib.hid SA; clear SA
  have SB := szLin_any false 0 w.heap.size (.slice aB tsB.length kB) tsB (((1048576 - tsA.length : Nat)) : Int)
  rw [if_neg (by omega)] at SB
  rw [show (((1048576 - tsA.length : Nat)) : Int) - tsB.length = (((1048576 - tsA.length - tsB.length : Nat)) : Int) from by omega] at SB
  have SZB := Lib.hid SB; clear SB
  go_enter Try.func9, Try.ntmps9
  go_wp2_with fail
  refine name_call fun w1 hw1 => ?_
  have b1 : Below w.heap.size w w1 := by rw [hw1]; (repeat (first | exact Below.refl _ _ | assumption | refine Below.drew ?_ | refine bdrewN ?_ _ | refine Below.alloc ?_ (by first | exact Nat.le_refl _ | (simp; done) | omega | (simp; omega)) _ | refine Below.setCell ?_ (by first | exact Nat.le_refl _ | (simp; done) | omega | (simp; omega)) _))
  have z1 : w.heap.size + 2 ≤ w1.heap.size := by rw [hw1]; simp
  have cBA1 : w1.cell? ⟨w.heap.size, 0, none⟩ = some (.slice aA tsA.length kA) := by rw [hw1]; simp
  have cBB1 : w1.cell? ⟨w.heap.size + 1, 0, none⟩ = some (.slice aB tsB.length kB) := by rw [hw1]; simp
  have tA1 := hA.keep b1 (Nat.le_refl _)
  have tB1 := hB.keep b1 (Nat.le_refl _)
  clear hw1
  refine (SZA.out _ tA1 (by omega) (by omega) (by omega)).mono ?_; rintro e w2 ⟨rfl, f2⟩
  have b2 := b1.trans (f2.mono (by omega))
  have z2 := f2.size
  have cBA2 := cell_keep f2 cBA1
  have cBB2 := cell_keep f2 cBB1
  have tA2 := tA1.keep f2 (by omega)
  have tB2 := tB1.keep f2 (by omega)
  clear cBA1 cBB1 tA1 tB1
  go_wp2_with fail
  refine name_call fun w3 hw3 => ?_
  have b3 : Below w.heap.size w w3 := by rw [hw3]; (repeat (first | exact Below.refl _ _ | assumption | refine Below.drew ?_ | refine bdrewN ?_ _ | refine Below.alloc ?_ (by first | exact Nat.le_refl _ | (simp; done) | omega | (simp; omega)) _ | refine Below.setCell ?_ (by first | exact Nat.le_refl _ | (simp; done) | omega | (simp; omega)) _))
  have z3 : w2.heap.size + 0 ≤ w3.heap.size := by rw [hw3]; simp
  have cBA3 : w3.cell? ⟨w.heap.size, 0, none⟩ = some (.slice aA tsA.length kA) := by rw [hw3]; first | exact cBA2 | exact cBA2
  have cBB3 : w3.cell? ⟨w.heap.size + 1, 0, none⟩ = some (.slice aB tsB.length kB) := by rw [hw3]; first | exact cBB2 | exact cBB2
  have tA3 := tA2.keep (show Below w2.heap.size w2 w3 by rw [hw3]; (repeat (first | exact Below.refl _ _ | assumption | refine Below.drew ?_ | refine bdrewN ?_ _ | refine Below.alloc ?_ (by first | exact Nat.le_refl _ | (simp; done) | omega | (simp; omega)) _ | refine Below.setCell ?_ (by first | exact Nat.le_refl _ | (simp; done) | omega | (simp; omega)) _))) (by omega)
  have tB3 := tB2.keep (show Below w2.heap.size w2 w3 by rw [hw3]; (repeat (first | exact Below.refl _ _ | assumption | refine Below.drew ?_ | refine bdrewN ?_ _ | refine Below.alloc ?_ (by first | exact Nat.le_refl _ | (simp; done) | omega | (simp; omega)) _ | refine Below.setCell ?_ (by first | exact Nat.le_refl _ | (simp; done) | omega | (simp; omega)) _))) (by omega)
  clear hw3
  clear cBA2 cBB2 tA2 tB2
  refine (SZB.out _ tB3 (by omega) (by omega) (by omega)).mono ?_; rintro e w4 ⟨rfl, f4⟩
  have b4 := b3.trans (f4.mono (by omega))
  have z4 := f4.size
  have cBA4 := cell_keep f4 cBA3
  have cBB4 := cell_keep f4 cBB3
  have tA4 := tA3.keep f4 (by omega)
  have tB4 := tB3.keep f4 (by omega)
  clear cBA3 cBB3 tA3 tB3
  go_wp2_with fail
  refine name_wp fun w5 hw5 => ?_
  have b5 : Below w.heap.size w w5 := by rw [hw5]; (repeat (first | exact Below.refl _ _ | assumption | refine Below.drew ?_ | refine bdrewN ?_ _ | refine Below.alloc ?_ (by first | exact Nat.le_refl _ | (simp; done) | omega | (simp; omega)) _ | refine Below.setCell ?_ (by first | exact Nat.le_refl _ | (simp; done) | omega | (simp; omega)) _))
  have z5 : w4.heap.size + 0 ≤ w5.heap.size := by rw [hw5]; simp
  have cBA5 : w5.cell? ⟨w.heap.size, 0, none⟩ = some (.slice aA tsA.length kA) := by rw [hw5]; first | exact cBA4 | exact cBA4
  have cBB5 : w5.cell? ⟨w.heap.size + 1, 0, none⟩ = some (.slice aB tsB.length kB) := by rw [hw5]; first | exact cBB4 | exact cBB4
  have tA5 := tA4.keep (show Below w4.heap.size w4 w5 by rw [hw5]; (repeat (first | exact Below.refl _ _ | assumption | refine Below.drew ?_ | refine bdrewN ?_ _ | refine Below.alloc ?_ (by first | exact Nat.le_refl _ | (simp; done) | omega | (simp; omega)) _ | refine Below.setCell ?_ (by first | exact Nat.le_refl _ | (simp; done) | omega | (simp; omega)) _))) (by omega)
  have tB5 := tB4.keep (show Below w4.heap.size w4 w5 by rw [hw5]; (repeat (first | exact Below.refl _ _ | assumption | refine Below.drew ?_ | refine bdrewN ?_ _ | refine Below.alloc ?_ (by first | exact Nat.le_refl _ | (simp; done) | omega | (simp; omega)) _ | refine Below.setCell ?_ (by first | exact Nat.le_refl _ | (simp; done) | omega | (simp; omega)) _))) (by omega)
  clear hw5
  clear cBA4 cBB4 tA4 tB4
  have d5 : Below w5.heap.size w5 w5.drew := (Below.refl _ _).drew
  have zd5 : w5.drew.heap.size ≤ w5.heap.size := Nat.le_refl _
  have ze5 : w5.heap.size ≤ w5.drew.heap.size := Nat.le_refl _
  have eBA : w5.drew.cell? ⟨w.heap.size, 0, none⟩ = some (.slice aA tsA.length kA) := cell_keep d5 cBA5
  have eBB : w5.drew.cell? ⟨w.heap.size + 1, 0, none⟩ = some (.slice aB tsB.length kB) := cell_keep d5 cBB5
  have eA := tA5.keep d5 (by omega)
  have eB := tB5.keep d5 (by omega)
  go_cut [6, 7] (fun s6 s7 wx => CutW w5 (lcomb 1 tsA tsB) (lok tsA tsB) s6 s7 wx)
  case first =>
    go_region_held3 (fun w' => w'.cell? ⟨w.heap.size, 0, none⟩ = some (.slice aA tsA.length kA) ∧ w'.cell? ⟨w.heap.size + 1, 0, none⟩ = some (.slice aB tsB.length kB) ∧ Below w5.drew.heap.size w5.drew w') (first | exact ⟨eBA, eBB, Below.refl _ _⟩ | exact keep2 eBA eBB (by (repeat (first | exact Below.refl _ _ | assumption | refine Below.alloc ?_ (by first | exact Nat.le_refl _ | exact Below.size (by assumption) | (simp; done) | omega | (simp; omega)) _ | refine Below.setCell ?_ (by first | exact Nat.le_refl _ | exact Below.size (by assumption) | (simp; done) | omega | (simp; omega)) _))))
      (first
        | (go_at_call_of 38 (Value.agg #[Value.slice aA tsA.length kA]); refine (toLin_any _ _ _ _ _ _ (eA.keep (B := w5.drew.heap.size) (by (repeat (first | exact Below.refl _ _ | assumption | refine Below.alloc ?_ (by first | exact Nat.le_refl _ | exact Below.size (by assumption) | (simp; done) | omega | (simp; omega)) _ | refine Below.setCell ?_ (by first | exact Nat.le_refl _ | exact Below.size (by assumption) | (simp; done) | omega | (simp; omega)) _))) (by omega)) (Nat.le_trans (show w.heap.size ≤ w5.drew.heap.size by omega) (Below.size (B := w5.drew.heap.size) (by (repeat (first | exact Below.refl _ _ | assumption | refine Below.alloc ?_ (by first | exact Nat.le_refl _ | exact Below.size (by assumption) | (simp; done) | omega | (simp; omega)) _ | refine Below.setCell ?_ (by first | exact Nat.le_refl _ | exact Below.size (by assumption) | (simp; done) | omega | (simp; omega)) _))))) (by omega)).mono ?_; rintro e p0 ⟨q0, rfl, g0, r0⟩; obtain ⟨am0, km0, rfl, lm0, bm0⟩ := r0.shape; have G0 := chain_step g0 (show Below w5.drew.heap.size w5.drew _ by (repeat (first | exact Below.refl _ _ | assumption | refine Below.alloc ?_ (by first | exact Nat.le_refl _ | exact Below.size (by assumption) | (simp; done) | omega | (simp; omega)) _ | refine Below.setCell ?_ (by first | exact Nat.le_refl _ | exact Below.size (by assumption) | (simp; done) | omega | (simp; omega)) _))); have ⟨hc0, hf0⟩ := bcell g0; have z0q := g0.size; (try simp at z0q); (try have y0x : w5.heap.size < p0.heap.size := by omega))
        | (go_at_call_of 38 (Value.agg #[Value.slice aB tsB.length kB]); refine (toLin_any _ _ _ _ _ _ (eB.keep (B := w5.drew.heap.size) (by (repeat (first | exact Below.refl _ _ | assumption | refine Below.alloc ?_ (by first | exact Nat.le_refl _ | exact Below.size (by assumption) | (simp; done) | omega | (simp; omega)) _ | refine Below.setCell ?_ (by first | exact Nat.le_refl _ | exact Below.size (by assumption) | (simp; done) | omega | (simp; omega)) _))) (by omega)) (Nat.le_trans (show w.heap.size ≤ w5.drew.heap.size by omega) (Below.size (B := w5.drew.heap.size) (by (repeat (first | exact Below.refl _ _ | assumption | refine Below.alloc ?_ (by first | exact Nat.le_refl _ | exact Below.size (by assumption) | (simp; done) | omega | (simp; omega)) _ | refine Below.setCell ?_ (by first | exact Nat.le_refl _ | exact Below.size (by assumption) | (simp; done) | omega | (simp; omega)) _))))) (by omega)).mono ?_; rintro e p1 ⟨q1, rfl, g1, r1⟩; obtain ⟨am1, km1, rfl, lm1, bm1⟩ := r1.shape; have G1 := chain_step g1 (show Below w5.drew.heap.size w5.drew _ by (repeat (first | exact Below.refl _ _ | assumption | refine Below.alloc ?_ (by first | exact Nat.le_refl _ | exact Below.size (by assumption) | (simp; done) | omega | (simp; omega)) _ | refine Below.setCell ?_ (by first | exact Nat.le_refl _ | exact Below.size (by assumption) | (simp; done) | omega | (simp; omega)) _))); have ⟨hc1, hf1⟩ := bcell g1; have z1q := g1.size; (try simp at z1q); (try have y1x : w5.heap.size < p1.heap.size := by omega); (try have y1x0 : p0.heap.size < p1.heap.size := by omega); have G01 := chain_step g1 (show Below p0.heap.size p0 _ by (repeat (first | exact Below.refl _ _ | assumption | refine Below.alloc ?_ (by first | exact Nat.le_refl _ | exact Below.size (by assumption) | (simp; done) | omega | (simp; omega)) _ | refine Below.setCell ?_ (by first | exact Nat.le_refl _ | exact Below.size (by assumption) | (simp; done) | omega | (simp; omega)) _))))
        | (go_at_call 45; refine (linAdd_spec _ _ _ _ _ _ _ _ _ _ _ (r0.keep (B := p0.heap.size) (by (repeat (first | exact Below.refl _ _ | assumption | refine Below.alloc ?_ (by first | exact Nat.le_refl _ | exact Below.size (by assumption) | (simp; done) | omega | (simp; omega)) _ | refine Below.setCell ?_ (by first | exact Nat.le_refl _ | exact Below.size (by assumption) | (simp; done) | omega | (simp; omega)) _))) (Nat.le_refl _)) (Below.size (B := p0.heap.size) (by (repeat (first | exact Below.refl _ _ | assumption | refine Below.alloc ?_ (by first | exact Nat.le_refl _ | exact Below.size (by assumption) | (simp; done) | omega | (simp; omega)) _ | refine Below.setCell ?_ (by first | exact Nat.le_refl _ | exact Below.size (by assumption) | (simp; done) | omega | (simp; omega)) _)))) (r1.keep (B := p1.heap.size) (by (repeat (first | exact Below.refl _ _ | assumption | refine Below.alloc ?_ (by first | exact Nat.le_refl _ | exact Below.size (by assumption) | (simp; done) | omega | (simp; omega)) _ | refine Below.setCell ?_ (by first | exact Nat.le_refl _ | exact Below.size (by assumption) | (simp; done) | omega | (simp; omega)) _))) (Nat.le_refl _)) (Below.size (B := p1.heap.size) (by (repeat (first | exact Below.refl _ _ | assumption | refine Below.alloc ?_ (by first | exact Nat.le_refl _ | exact Below.size (by assumption) | (simp; done) | omega | (simp; omega)) _ | refine Below.setCell ?_ (by first | exact Nat.le_refl _ | exact Below.size (by assumption) | (simp; done) | omega | (simp; omega)) _))))).mono ?_; rintro e p2 ⟨q2, rfl, g2, r2⟩; obtain ⟨am2, km2, rfl, lm2, bm2⟩ := r2.shape; have G2 := chain_step g2 (show Below w5.drew.heap.size w5.drew _ by (repeat (first | exact Below.refl _ _ | assumption | refine Below.alloc ?_ (by first | exact Nat.le_refl _ | exact Below.size (by assumption) | (simp; done) | omega | (simp; omega)) _ | refine Below.setCell ?_ (by first | exact Nat.le_refl _ | exact Below.size (by assumption) | (simp; done) | omega | (simp; omega)) _))); have ⟨hc2, hf2⟩ := bcell g2))
    all_goals go_wp2_with fail
    all_goals go_meet
    all_goals (first | exact cutW_alloc d5 G2 r2 (by first | omega | (simp; done) | (simp; omega)) | exact cutW_set d5 G2 r2 (by first | omega | (simp; done) | (simp; omega)) (by first | omega | (simp; done) | (simp; omega)) (by simp (disch := first | omega | (simp; done) | (simp; omega)) [hc2, hc0, hc1]))
  case rest =>
    clear eBA eBB eA eB
    obtain ⟨g6, aW, kW, rfl, rfl, hg6, cW6, b06, tW6⟩ := hcut
    obtain ⟨w6, hw6⟩ : ∃ x, x = wc := ⟨_, rfl⟩
    subst hw6
    have b6 : Below w.heap.size w w6 := b5.trans (b06.mono (by omega))
    have z6 : w5.heap.size ≤ w6.heap.size := b06.size
    have lg6 : g6 < w6.heap.size := World.block_lt_of_cell? w6 _ cW6
    have cBA6 := cell_keep b06 cBA5
    have cBB6 := cell_keep b06 cBB5
    have tA6 := tA5.keep b06 (by omega)
    have tB6 := tB5.keep b06 (by omega)
    clear cBA5 cBB5 tA5 tB5
    obtain ⟨laW, baW⟩ : (lcomb 1 tsA tsB).length ≤ kW ∧ kW ≤ 9223372036854775807 := by obtain ⟨_, _, e, h1, h2⟩ := tW6.shape; cases e; exact ⟨h1, h2⟩
    go_wp2_with fail
    refine name_call fun w7 hw7 => ?_
    have b7 : Below w.heap.size w w7 := by rw [hw7]; (repeat (first | exact Below.refl _ _ | assumption | refine Below.drew ?_ | refine bdrewN ?_ _ | refine Below.alloc ?_ (by first | exact Nat.le_refl _ | (simp; done) | omega | (simp; omega)) _ | refine Below.setCell ?_ (by first | exact Nat.le_refl _ | (simp; done) | omega | (simp; omega)) _))
    have z7 : w6.heap.size + 0 ≤ w7.heap.size := by rw [hw7]; simp
    have cBA7 : w7.cell? ⟨w.heap.size, 0, none⟩ = some (.slice aA tsA.length kA) := by rw [hw7]; first | exact cBA6 | exact cBA6
    have cBB7 : w7.cell? ⟨w.heap.size + 1, 0, none⟩ = some (.slice aB tsB.length kB) := by rw [hw7]; first | exact cBB6 | exact cBB6
    have cW7 : w7.cell? ⟨g6, 0, none⟩ = some (.slice aW (lcomb 1 tsA tsB).length kW) := by rw [hw7]; first | exact cW6 | exact cW6
    have tA7 := tA6.keep (show Below w6.heap.size w6 w7 by rw [hw7]; (repeat (first | exact Below.refl _ _ | assumption | refine Below.drew ?_ | refine bdrewN ?_ _ | refine Below.alloc ?_ (by first | exact Nat.le_refl _ | (simp; done) | omega | (simp; omega)) _ | refine Below.setCell ?_ (by first | exact Nat.le_refl _ | (simp; done) | omega | (simp; omega)) _))) (by omega)
    have tB7 := tB6.keep (show Below w6.heap.size w6 w7 by rw [hw7]; (repeat (first | exact Below.refl _ _ | assumption | refine Below.drew ?_ | refine bdrewN ?_ _ | refine Below.alloc ?_ (by first | exact Nat.le_refl _ | (simp; done) | omega | (simp; omega)) _ | refine Below.setCell ?_ (by first | exact Nat.le_refl _ | (simp; done) | omega | (simp; omega)) _))) (by omega)
    have tW7 := tW6.keep (show Below w6.heap.size w6 w7 by rw [hw7]; (repeat (first | exact Below.refl _ _ | assumption | refine Below.drew ?_ | refine bdrewN ?_ _ | refine Below.alloc ?_ (by first | exact Nat.le_refl _ | (simp; done) | omega | (simp; omega)) _ | refine Below.setCell ?_ (by first | exact Nat.le_refl _ | (simp; done) | omega | (simp; omega)) _))) (by omega)
    clear hw7
    clear cBA6 cBB6 cW6 tA6 tB6 tW6
    refine (toLin_any _ _ _ _ _ _ tA7 (by omega) (by omega)).mono ?_; rintro e w8 ⟨u8, rfl, f8, tq8⟩
    have b8 := b7.trans (f8.mono (by omega))
    have z8 := f8.size
    have cBA8 := cell_keep f8 cBA7
    have cBB8 := cell_keep f8 cBB7
    have cW8 := cell_keep f8 cW7
    have tA8 := tA7.keep f8 (by omega)
    have tB8 := tB7.keep f8 (by omega)
    have tW8 := tW7.keep f8 (by omega)
    clear cBA7 cBB7 cW7 tA7 tB7 tW7
    have txA8 := tq8; clear tq8
    obtain ⟨axA, kxA, rfl, laxA, baxA⟩ := txA8.shape
    have lBA8 : w.heap.size < w8.heap.size := by omega
    have lBB8 : w.heap.size + 1 < w8.heap.size := by omega
    have lW8 : g6 < w8.heap.size := by omega
    go_wp2_with fail
    refine name_call fun w9 hw9 => ?_
    clear lBA8 lBB8 lW8
    have b9 : Below w.heap.size w w9 := by rw [hw9]; (repeat (first | exact Below.refl _ _ | assumption | refine Below.drew ?_ | refine bdrewN ?_ _ | refine Below.alloc ?_ (by first | exact Nat.le_refl _ | (simp; done) | omega | (simp; omega)) _ | refine Below.setCell ?_ (by first | exact Nat.le_refl _ | (simp; done) | omega | (simp; omega)) _))
    have z9 : w8.heap.size + 1 ≤ w9.heap.size := by rw [hw9]; simp
    have cBA9 : w9.cell? ⟨w.heap.size, 0, none⟩ = some (.slice aA tsA.length kA) := by rw [hw9]; first | exact cBA8 | exact alloc_keep (cBA8)
    have cBB9 : w9.cell? ⟨w.heap.size + 1, 0, none⟩ = some (.slice aB tsB.length kB) := by rw [hw9]; first | exact cBB8 | exact alloc_keep (cBB8)
    have cW9 : w9.cell? ⟨g6, 0, none⟩ = some (.slice aW (lcomb 1 tsA tsB).length kW) := by rw [hw9]; first | exact cW8 | exact alloc_keep (cW8)
    have cXA9 : w9.cell? ⟨w8.heap.size, 0, none⟩ = some (.slice axA (tsA).length kxA) := by rw [hw9]; simp
    have tA9 := tA8.keep (show Below w8.heap.size w8 w9 by rw [hw9]; (repeat (first | exact Below.refl _ _ | assumption | refine Below.drew ?_ | refine bdrewN ?_ _ | refine Below.alloc ?_ (by first | exact Nat.le_refl _ | (simp; done) | omega | (simp; omega)) _ | refine Below.setCell ?_ (by first | exact Nat.le_refl _ | (simp; done) | omega | (simp; omega)) _))) (by omega)
    have tB9 := tB8.keep (show Below w8.heap.size w8 w9 by rw [hw9]; (repeat (first | exact Below.refl _ _ | assumption | refine Below.drew ?_ | refine bdrewN ?_ _ | refine Below.alloc ?_ (by first | exact Nat.le_refl _ | (simp; done) | omega | (simp; omega)) _ | refine Below.setCell ?_ (by first | exact Nat.le_refl _ | (simp; done) | omega | (simp; omega)) _))) (by omega)
    have tW9 := tW8.keep (show Below w8.heap.size w8 w9 by rw [hw9]; (repeat (first | exact Below.refl _ _ | assumption | refine Below.drew ?_ | refine bdrewN ?_ _ | refine Below.alloc ?_ (by first | exact Nat.le_refl _ | (simp; done) | omega | (simp; omega)) _ | refine Below.setCell ?_ (by first | exact Nat.le_refl _ | (simp; done) | omega | (simp; omega)) _))) (by omega)
    have txA9 := txA8.keep (show Below w8.heap.size w8 w9 by rw [hw9]; (repeat (first | exact Below.refl _ _ | assumption | refine Below.drew ?_ | refine bdrewN ?_ _ | refine Below.alloc ?_ (by first | exact Nat.le_refl _ | (simp; done) | omega | (simp; omega)) _ | refine Below.setCell ?_ (by first | exact Nat.le_refl _ | (simp; done) | omega | (simp; omega)) _))) (by omega)
    clear hw9
    clear cBA8 cBB8 cW8 tA8 tB8 tW8 txA8
    refine (toLin_any _ _ _ _ _ _ tB9 (by omega) (by omega)).mono ?_; rintro e w10 ⟨u10, rfl, f10, tq10⟩
    have b10 := b9.trans (f10.mono (by omega))
    have z10 := f10.size
    have cBA10 := cell_keep f10 cBA9
    have cBB10 := cell_keep f10 cBB9
    have cW10 := cell_keep f10 cW9
    have cXA10 := cell_keep f10 cXA9
    have tA10 := tA9.keep f10 (by omega)
    have tB10 := tB9.keep f10 (by omega)
    have tW10 := tW9.keep f10 (by omega)
    have txA10 := txA9.keep f10 (by omega)
    clear cBA9 cBB9 cW9 cXA9 tA9 tB9 tW9 txA9
    have txB10 := tq10; clear tq10
    obtain ⟨axB, kxB, rfl, laxB, baxB⟩ := txB10.shape
    have lBA10 : w.heap.size < w10.heap.size := by omega
    have lBB10 : w.heap.size + 1 < w10.heap.size := by omega
    have lW10 : g6 < w10.heap.size := by omega
    have lXA10 : w8.heap.size < w10.heap.size := by omega
    go_wp2_with fail
    refine name_call fun w11 hw11 => ?_
    clear lBA10 lBB10 lW10 lXA10
    have b11 : Below w.heap.size w w11 := by rw [hw11]; (repeat (first | exact Below.refl _ _ | assumption | refine Below.drew ?_ | refine bdrewN ?_ _ | refine Below.alloc ?_ (by first | exact Nat.le_refl _ | (simp; done) | omega | (simp; omega)) _ | refine Below.setCell ?_ (by first | exact Nat.le_refl _ | (simp; done) | omega | (simp; omega)) _))
    have z11 : w10.heap.size + 1 ≤ w11.heap.size := by rw [hw11]; simp
    have cBA11 : w11.cell? ⟨w.heap.size, 0, none⟩ = some (.slice aA tsA.length kA) := by rw [hw11]; first | exact cBA10 | exact alloc_keep (cBA10)
    have cBB11 : w11.cell? ⟨w.heap.size + 1, 0, none⟩ = some (.slice aB tsB.length kB) := by rw [hw11]; first | exact cBB10 | exact alloc_keep (cBB10)
    have cW11 : w11.cell? ⟨g6, 0, none⟩ = some (.slice aW (lcomb 1 tsA tsB).length kW) := by rw [hw11]; first | exact cW10 | exact alloc_keep (cW10)
    have cXA11 : w11.cell? ⟨w8.heap.size, 0, none⟩ = some (.slice axA (tsA).length kxA) := by rw [hw11]; first | exact cXA10 | exact alloc_keep (cXA10)
    have cXB11 : w11.cell? ⟨w10.heap.size, 0, none⟩ = some (.slice axB (tsB).length kxB) := by rw [hw11]; simp
    have tA11 := tA10.keep (show Below w10.heap.size w10 w11 by rw [hw11]; (repeat (first | exact Below.refl _ _ | assumption | refine Below.drew ?_ | refine bdrewN ?_ _ | refine Below.alloc ?_ (by first | exact Nat.le_refl _ | (simp; done) | omega | (simp; omega)) _ | refine Below.setCell ?_ (by first | exact Nat.le_refl _ | (simp; done) | omega | (simp; omega)) _))) (by omega)
    have tB11 := tB10.keep (show Below w10.heap.size w10 w11 by rw [hw11]; (repeat (first | exact Below.refl _ _ | assumption | refine Below.drew ?_ | refine bdrewN ?_ _ | refine Below.alloc ?_ (by first | exact Nat.le_refl _ | (simp; done) | omega | (simp; omega)) _ | refine Below.setCell ?_ (by first | exact Nat.le_refl _ | (simp; done) | omega | (simp; omega)) _))) (by omega)
    have tW11 := tW10.keep (show Below w10.heap.size w10 w11 by rw [hw11]; (repeat (first | exact Below.refl _ _ | assumption | refine Below.drew ?_ | refine bdrewN ?_ _ | refine Below.alloc ?_ (by first | exact Nat.le_refl _ | (simp; done) | omega | (simp; omega)) _ | refine Below.setCell ?_ (by first | exact Nat.le_refl _ | (simp; done) | omega | (simp; omega)) _))) (by omega)
    have txA11 := txA10.keep (show Below w10.heap.size w10 w11 by rw [hw11]; (repeat (first | exact Below.refl _ _ | assumption | refine Below.drew ?_ | refine bdrewN ?_ _ | refine Below.alloc ?_ (by first | exact Nat.le_refl _ | (simp; done) | omega | (simp; omega)) _ | refine Below.setCell ?_ (by first | exact Nat.le_refl _ | (simp; done) | omega | (simp; omega)) _))) (by omega)
    have txB11 := txB10.keep (show Below w10.heap.size w10 w11 by rw [hw11]; (repeat (first | exact Below.refl _ _ | assumption | refine Below.drew ?_ | refine bdrewN ?_ _ | refine Below.alloc ?_ (by first | exact Nat.le_refl _ | (simp; done) | omega | (simp; omega)) _ | refine Below.setCell ?_ (by first | exact Nat.le_refl _ | (simp; done) | omega | (simp; omega)) _))) (by omega)
    clear hw11
    clear cBA10 cBB10 cW10 cXA10 tA10 tB10 tW10 txA10 txB10
    refine (linAdd_impl _ _ _ _ _ _ _ _ _ _ _ txA11 (by omega) txB11 (by omega) ).mono ?_; rintro e w12 ⟨u12, rfl, f12, tq12⟩
    have b12 := b11.trans (f12.mono (by omega))
    have z12 := f12.size
    have cBA12 := cell_keep f12 cBA11
    have cBB12 := cell_keep f12 cBB11
    have cW12 := cell_keep f12 cW11
    have cXA12 := cell_keep f12 cXA11
    have cXB12 := cell_keep f12 cXB11
    have tA12 := tA11.keep f12 (by omega)
    have tB12 := tB11.keep f12 (by omega)
    have tW12 := tW11.keep f12 (by omega)
    have txA12 := txA11.keep f12 (by omega)
    have txB12 := txB11.keep f12 (by omega)
    clear cBA11 cBB11 cW11 cXA11 cXB11 tA11 tB11 tW11 txA11 txB11
    have tG12 := tq12; clear tq12
    obtain ⟨aG, kG, rfl, laG, baG⟩ := tG12.shape
    have lBA12 : w.heap.size < w12.heap.size := by omega
    have lBB12 : w.heap.size + 1 < w12.heap.size := by omega
    have lW12 : g6 < w12.heap.size := by omega
    have lXA12 : w8.heap.size < w12.heap.size := by omega
    have lXB12 : w10.heap.size < w12.heap.size := by omega
    go_wp2_with fail
    refine name_call fun w13 hw13 => ?_
    clear lBA12 lBB12 lW12 lXA12 lXB12
    have b13 : Below w.heap.size w w13 := by rw [hw13]; (repeat (first | exact Below.refl _ _ | assumption | refine Below.drew ?_ | refine bdrewN ?_ _ | refine Below.alloc ?_ (by first | exact Nat.le_refl _ | (simp; done) | omega | (simp; omega)) _ | refine Below.setCell ?_ (by first | exact Nat.le_refl _ | (simp; done) | omega | (simp; omega)) _))
    have z13 : w12.heap.size + 1 ≤ w13.heap.size := by rw [hw13]; simp
    have cBA13 : w13.cell? ⟨w.heap.size, 0, none⟩ = some (.slice aA tsA.length kA) := by rw [hw13]; first | exact cBA12 | exact alloc_keep (cBA12)
    have cBB13 : w13.cell? ⟨w.heap.size + 1, 0, none⟩ = some (.slice aB tsB.length kB) := by rw [hw13]; first | exact cBB12 | exact alloc_keep (cBB12)
    have cW13 : w13.cell? ⟨g6, 0, none⟩ = some (.slice aW (lcomb 1 tsA tsB).length kW) := by rw [hw13]; first | exact cW12 | exact alloc_keep (cW12)
    have cXA13 : w13.cell? ⟨w8.heap.size, 0, none⟩ = some (.slice axA (tsA).length kxA) := by rw [hw13]; first | exact cXA12 | exact alloc_keep (cXA12)
    have cXB13 : w13.cell? ⟨w10.heap.size, 0, none⟩ = some (.slice axB (tsB).length kxB) := by rw [hw13]; first | exact cXB12 | exact alloc_keep (cXB12)
    have cG13 : w13.cell? ⟨w12.heap.size, 0, none⟩ = some (.slice aG (lcomb 1 tsA tsB).length kG) := by rw [hw13]; simp
    have tA13 := tA12.keep (show Below w12.heap.size w12 w13 by rw [hw13]; (repeat (first | exact Below.refl _ _ | assumption | refine Below.drew ?_ | refine bdrewN ?_ _ | refine Below.alloc ?_ (by first | exact Nat.le_refl _ | (simp; done) | omega | (simp; omega)) _ | refine Below.setCell ?_ (by first | exact Nat.le_refl _ | (simp; done) | omega | (simp; omega)) _))) (by omega)
    have tB13 := tB12.keep (show Below w12.heap.size w12 w13 by rw [hw13]; (repeat (first | exact Below.refl _ _ | assumption | refine Below.drew ?_ | refine bdrewN ?_ _ | refine Below.alloc ?_ (by first | exact Nat.le_refl _ | (simp; done) | omega | (simp; omega)) _ | refine Below.setCell ?_ (by first | exact Nat.le_refl _ | (simp; done) | omega | (simp; omega)) _))) (by omega)
    have tW13 := tW12.keep (show Below w12.heap.size w12 w13 by rw [hw13]; (repeat (first | exact Below.refl _ _ | assumption | refine Below.drew ?_ | refine bdrewN ?_ _ | refine Below.alloc ?_ (by first | exact Nat.le_refl _ | (simp; done) | omega | (simp; omega)) _ | refine Below.setCell ?_ (by first | exact Nat.le_refl _ | (simp; done) | omega | (simp; omega)) _))) (by omega)
    have txA13 := txA12.keep (show Below w12.heap.size w12 w13 by rw [hw13]; (repeat (first | exact Below.refl _ _ | assumption | refine Below.drew ?_ | refine bdrewN ?_ _ | refine Below.alloc ?_ (by first | exact Nat.le_refl _ | (simp; done) | omega | (simp; omega)) _ | refine Below.setCell ?_ (by first | exact Nat.le_refl _ | (simp; done) | omega | (simp; omega)) _))) (by omega)
    have txB13 := txB12.keep (show Below w12.heap.size w12 w13 by rw [hw13]; (repeat (first | exact Below.refl _ _ | assumption | refine Below.drew ?_ | refine bdrewN ?_ _ | refine Below.alloc ?_ (by first | exact Nat.le_refl _ | (simp; done) | omega | (simp; omega)) _ | refine Below.setCell ?_ (by first | exact Nat.le_refl _ | (simp; done) | omega | (simp; omega)) _))) (by omega)
    have tG13 := tG12.keep (show Below w12.heap.size w12 w13 by rw [hw13]; (repeat (first | exact Below.refl _ _ | assumption | refine Below.drew ?_ | refine bdrewN ?_ _ | refine Below.alloc ?_ (by first | exact Nat.le_refl _ | (simp; done) | omega | (simp; omega)) _ | refine Below.setCell ?_ (by first | exact Nat.le_refl _ | (simp; done) | omega | (simp; omega)) _))) (by omega)
    clear hw13
    clear cBA12 cBB12 cW12 cXA12 cXB12 tA12 tB12 tW12 txA12 txB12 tG12
    refine (eqLin_any _ _ _ _ _ _ _ _ _ _ _ tG13 tW13 (by omega) (by omega)).mono ?_; rw [dec_self]; rintro e w14 ⟨rfl, f14⟩
    have b14 := b13.trans (f14.mono (by omega))
    have z14 := f14.size
    have cBA14 := cell_keep f14 cBA13
    have cBB14 := cell_keep f14 cBB13
    have cW14 := cell_keep f14 cW13
    have cXA14 := cell_keep f14 cXA13
    have cXB14 := cell_keep f14 cXB13
    have cG14 := cell_keep f14 cG13
    have tA14 := tA13.keep f14 (by omega)
    have tB14 := tB13.keep f14 (by omega)
    have tW14 := tW13.keep f14 (by omega)
    have txA14 := txA13.keep f14 (by omega)
    have txB14 := txB13.keep f14 (by omega)
    have tG14 := tG13.keep f14 (by omega)
    clear cBA13 cBB13 cW13 cXA13 cXB13 cG13 tA13 tB13 tW13 txA13 txB13 tG13
    go_wp2_with fail
    refine name_wp fun w15 hw15 => ?_
    have b15 : Below w.heap.size w w15 := by rw [hw15]; (repeat (first | exact Below.refl _ _ | assumption | refine Below.drew ?_ | refine bdrewN ?_ _ | refine Below.alloc ?_ (by first | exact Nat.le_refl _ | (simp; done) | omega | (simp; omega)) _ | refine Below.setCell ?_ (by first | exact Nat.le_refl _ | (simp; done) | omega | (simp; omega)) _))
    have z15 : w14.heap.size + 0 ≤ w15.heap.size := by rw [hw15]; simp
    have cBA15 : w15.cell? ⟨w.heap.size, 0, none⟩ = some (.slice aA tsA.length kA) := by rw [hw15]; first | exact cBA14 | exact cBA14
    have cBB15 : w15.cell? ⟨w.heap.size + 1, 0, none⟩ = some (.slice aB tsB.length kB) := by rw [hw15]; first | exact cBB14 | exact cBB14
    have cW15 : w15.cell? ⟨g6, 0, none⟩ = some (.slice aW (lcomb 1 tsA tsB).length kW) := by rw [hw15]; first | exact cW14 | exact cW14
    have cXA15 : w15.cell? ⟨w8.heap.size, 0, none⟩ = some (.slice axA (tsA).length kxA) := by rw [hw15]; first | exact cXA14 | exact cXA14
    have cXB15 : w15.cell? ⟨w10.heap.size, 0, none⟩ = some (.slice axB (tsB).length kxB) := by rw [hw15]; first | exact cXB14 | exact cXB14
    have cG15 : w15.cell? ⟨w12.heap.size, 0, none⟩ = some (.slice aG (lcomb 1 tsA tsB).length kG) := by rw [hw15]; first | exact cG14 | exact cG14
    have tA15 := tA14.keep (show Below w14.heap.size w14 w15 by rw [hw15]; (repeat (first | exact Below.refl _ _ | assumption | refine Below.drew ?_ | refine bdrewN ?_ _ | refine Below.alloc ?_ (by first | exact Nat.le_refl _ | (simp; done) | omega | (simp; omega)) _ | refine Below.setCell ?_ (by first | exact Nat.le_refl _ | (simp; done) | omega | (simp; omega)) _))) (by omega)
    have tB15 := tB14.keep (show Below w14.heap.size w14 w15 by rw [hw15]; (repeat (first | exact Below.refl _ _ | assumption | refine Below.drew ?_ | refine bdrewN ?_ _ | refine Below.alloc ?_ (by first | exact Nat.le_refl _ | (simp; done) | omega | (simp; omega)) _ | refine Below.setCell ?_ (by first | exact Nat.le_refl _ | (simp; done) | omega | (simp; omega)) _))) (by omega)
    have tW15 := tW14.keep (show Below w14.heap.size w14 w15 by rw [hw15]; (repeat (first | exact Below.refl _ _ | assumption | refine Below.drew ?_ | refine bdrewN ?_ _ | refine Below.alloc ?_ (by first | exact Nat.le_refl _ | (simp; done) | omega | (simp; omega)) _ | refine Below.setCell ?_ (by first | exact Nat.le_refl _ | (simp; done) | omega | (simp; omega)) _))) (by omega)
    have txA15 := txA14.keep (show Below w14.heap.size w14 w15 by rw [hw15]; (repeat (first | exact Below.refl _ _ | assumption | refine Below.drew ?_ | refine bdrewN ?_ _ | refine Below.alloc ?_ (by first | exact Nat.le_refl _ | (simp; done) | omega | (simp; omega)) _ | refine Below.setCell ?_ (by first | exact Nat.le_refl _ | (simp; done) | omega | (simp; omega)) _))) (by omega)
    have txB15 := txB14.keep (show Below w14.heap.size w14 w15 by rw [hw15]; (repeat (first | exact Below.refl _ _ | assumption | refine Below.drew ?_ | refine bdrewN ?_ _ | refine Below.alloc ?_ (by first | exact Nat.le_refl _ | (simp; done) | omega | (simp; omega)) _ | refine Below.setCell ?_ (by first | exact Nat.le_refl _ | (simp; done) | omega | (simp; omega)) _))) (by omega)
    have tG15 := tG14.keep (show Below w14.heap.size w14 w15 by rw [hw15]; (repeat (first | exact Below.refl _ _ | assumption | refine Below.drew ?_ | refine bdrewN ?_ _ | refine Below.alloc ?_ (by first | exact Nat.le_refl _ | (simp; done) | omega | (simp; omega)) _ | refine Below.setCell ?_ (by first | exact Nat.le_refl _ | (simp; done) | omega | (simp; omega)) _))) (by omega)
    clear hw15
    clear cBA14 cBB14 cW14 cXA14 cXB14 cG14 tA14 tB14 tW14 txA14 txB14 tG14
    have b16 : Below w.heap.size w w15.drew := b15.drew
    have z16 : w15.heap.size ≤ w15.drew.heap.size := Nat.le_refl _
    have cBA16 : w15.drew.cell? ⟨w.heap.size, 0, none⟩ = some (.slice aA tsA.length kA) := cBA15
    have cBB16 : w15.drew.cell? ⟨w.heap.size + 1, 0, none⟩ = some (.slice aB tsB.length kB) := cBB15
    have cW16 : w15.drew.cell? ⟨g6, 0, none⟩ = some (.slice aW (lcomb 1 tsA tsB).length kW) := cW15
    have cXA16 : w15.drew.cell? ⟨w8.heap.size, 0, none⟩ = some (.slice axA (tsA).length kxA) := cXA15
    have cXB16 : w15.drew.cell? ⟨w10.heap.size, 0, none⟩ = some (.slice axB (tsB).length kxB) := cXB15
    have cG16 : w15.drew.cell? ⟨w12.heap.size, 0, none⟩ = some (.slice aG (lcomb 1 tsA tsB).length kG) := cG15
    have tA16 : Terms false (0) (w.heap.size) w15.drew (.slice aA tsA.length kA) (tsA) := tA15
    have tB16 : Terms false (0) (w.heap.size) w15.drew (.slice aB tsB.length kB) (tsB) := tB15
    have tW16 : Terms true (w5.heap.size) (w6.heap.size) w15.drew (.slice aW (lcomb 1 tsA tsB).length kW) (lcomb 1 tsA tsB) := tW15
    have txA16 : Terms true (w7.heap.size) (w8.heap.size) w15.drew (.slice axA (tsA).length kxA) (tsA) := txA15
    have txB16 : Terms true (w9.heap.size) (w10.heap.size) w15.drew (.slice axB (tsB).length kxB) (tsB) := txB15
    have tG16 : Terms true (w11.heap.size) (w12.heap.size) w15.drew (.slice aG (lcomb 1 tsA tsB).length kG) (lcomb 1 tsA tsB) := tG15
    clear cBA15 cBB15 cW15 cXA15 cXB15 cG15 tA15 tB15 tW15 txA15 txB15 tG15
    go_region_held3 (fun w' => w'.cell? ⟨w8.heap.size, 0, none⟩ = some (.slice axA (tsA).length kxA) ∧ w'.cell? ⟨w.heap.size, 0, none⟩ = some (.slice aA tsA.length kA)) (first | exact ⟨cXA16, cBA16⟩ | exact ⟨cXA17, cBA17⟩ | exact ⟨cXA18, cBA18⟩ | exact ⟨alloc_keep cXA18, alloc_keep cBA18⟩)
      (first
        | (go_at_call_of 38 (Value.agg #[Value.slice aA tsA.length kA]); refine (toLin_any _ _ _ _ _ _ tA16 (by omega) (by omega)).mono ?_; rintro e w17 ⟨u17, rfl, f17, tq17⟩; have b17 := b16.trans (f17.mono (by omega)); have z17 := f17.size; have cBA17 := cell_keep f17 cBA16; have cBB17 := cell_keep f17 cBB16; have cW17 := cell_keep f17 cW16; have cXA17 := cell_keep f17 cXA16; have cXB17 := cell_keep f17 cXB16; have cG17 := cell_keep f17 cG16; have tA17 := tA16.keep f17 (by omega); have tB17 := tB16.keep f17 (by omega); have tW17 := tW16.keep f17 (by omega); have txA17 := txA16.keep f17 (by omega); have txB17 := txB16.keep f17 (by omega); have tG17 := tG16.keep f17 (by omega); clear cBA16 cBB16 cW16 cXA16 cXB16 cG16 tA16 tB16 tW16 txA16 txB16 tG16; have tyA17 := tq17; clear tq17; obtain ⟨ayA, kyA, rfl, layA, bayA⟩ := tyA17.shape)
        | (go_at_call 39; refine (eqLin_any _ _ _ _ _ _ _ _ _ _ _ txA17 tyA17 (by omega) (by omega)).mono ?_; rw [dec_self]; rintro e w18 ⟨rfl, f18⟩; have b18 := b17.trans (f18.mono (by omega)); have z18 := f18.size; have cBA18 := cell_keep f18 cBA17; have cBB18 := cell_keep f18 cBB17; have cW18 := cell_keep f18 cW17; have cXA18 := cell_keep f18 cXA17; have cXB18 := cell_keep f18 cXB17; have cG18 := cell_keep f18 cG17; have tA18 := tA17.keep f18 (by omega); have tB18 := tB17.keep f18 (by omega); have tW18 := tW17.keep f18 (by omega); have txA18 := txA17.keep f18 (by omega); have txB18 := txB17.keep f18 (by omega); have tG18 := tG17.keep f18 (by omega); have tyA18 := tyA17.keep f18 (by omega); clear cBA17 cBB17 cW17 cXA17 cXB17 cG17 tA17 tB17 tW17 txA17 txB17 tG17 tyA17))
    clear tyA18
    go_wp2_with fail
    refine name_wp fun w19 hw19 => ?_
    have b19 : Below w.heap.size w w19 := by rw [hw19]; (repeat (first | exact Below.refl _ _ | assumption | refine Below.drew ?_ | refine bdrewN ?_ _ | refine Below.alloc ?_ (by first | exact Nat.le_refl _ | (simp; done) | omega | (simp; omega)) _ | refine Below.setCell ?_ (by first | exact Nat.le_refl _ | (simp; done) | omega | (simp; omega)) _))
    have z19 : w18.heap.size + 0 ≤ w19.heap.size := by rw [hw19]; simp
    have cBA19 : w19.cell? ⟨w.heap.size, 0, none⟩ = some (.slice aA tsA.length kA) := by rw [hw19]; first | exact cBA18 | exact cBA18
    have cBB19 : w19.cell? ⟨w.heap.size + 1, 0, none⟩ = some (.slice aB tsB.length kB) := by rw [hw19]; first | exact cBB18 | exact cBB18
    have cW19 : w19.cell? ⟨g6, 0, none⟩ = some (.slice aW (lcomb 1 tsA tsB).length kW) := by rw [hw19]; first | exact cW18 | exact cW18
    have cXA19 : w19.cell? ⟨w8.heap.size, 0, none⟩ = some (.slice axA (tsA).length kxA) := by rw [hw19]; first | exact cXA18 | exact cXA18
    have cXB19 : w19.cell? ⟨w10.heap.size, 0, none⟩ = some (.slice axB (tsB).length kxB) := by rw [hw19]; first | exact cXB18 | exact cXB18
    have cG19 : w19.cell? ⟨w12.heap.size, 0, none⟩ = some (.slice aG (lcomb 1 tsA tsB).length kG) := by rw [hw19]; first | exact cG18 | exact cG18
    have tA19 := tA18.keep (show Below w18.heap.size w18 w19 by rw [hw19]; (repeat (first | exact Below.refl _ _ | assumption | refine Below.drew ?_ | refine bdrewN ?_ _ | refine Below.alloc ?_ (by first | exact Nat.le_refl _ | (simp; done) | omega | (simp; omega)) _ | refine Below.setCell ?_ (by first | exact Nat.le_refl _ | (simp; done) | omega | (simp; omega)) _))) (by omega)
    have tB19 := tB18.keep (show Below w18.heap.size w18 w19 by rw [hw19]; (repeat (first | exact Below.refl _ _ | assumption | refine Below.drew ?_ | refine bdrewN ?_ _ | refine Below.alloc ?_ (by first | exact Nat.le_refl _ | (simp; done) | omega | (simp; omega)) _ | refine Below.setCell ?_ (by first | exact Nat.le_refl _ | (simp; done) | omega | (simp; omega)) _))) (by omega)
    have tW19 := tW18.keep (show Below w18.heap.size w18 w19 by rw [hw19]; (repeat (first | exact Below.refl _ _ | assumption | refine Below.drew ?_ | refine bdrewN ?_ _ | refine Below.alloc ?_ (by first | exact Nat.le_refl _ | (simp; done) | omega | (simp; omega)) _ | refine Below.setCell ?_ (by first | exact Nat.le_refl _ | (simp; done) | omega | (simp; omega)) _))) (by omega)
    have txA19 := txA18.keep (show Below w18.heap.size w18 w19 by rw [hw19]; (repeat (first | exact Below.refl _ _ | assumption | refine Below.drew ?_ | refine bdrewN ?_ _ | refine Below.alloc ?_ (by first | exact Nat.le_refl _ | (simp; done) | omega | (simp; omega)) _ | refine Below.setCell ?_ (by first | exact Nat.le_refl _ | (simp; done) | omega | (simp; omega)) _))) (by omega)
    have txB19 := txB18.keep (show Below w18.heap.size w18 w19 by rw [hw19]; (repeat (first | exact Below.refl _ _ | assumption | refine Below.drew ?_ | refine bdrewN ?_ _ | refine Below.alloc ?_ (by first | exact Nat.le_refl _ | (simp; done) | omega | (simp; omega)) _ | refine Below.setCell ?_ (by first | exact Nat.le_refl _ | (simp; done) | omega | (simp; omega)) _))) (by omega)
    have tG19 := tG18.keep (show Below w18.heap.size w18 w19 by rw [hw19]; (repeat (first | exact Below.refl _ _ | assumption | refine Below.drew ?_ | refine bdrewN ?_ _ | refine Below.alloc ?_ (by first | exact Nat.le_refl _ | (simp; done) | omega | (simp; omega)) _ | refine Below.setCell ?_ (by first | exact Nat.le_refl _ | (simp; done) | omega | (simp; omega)) _))) (by omega)
    clear hw19
    clear cBA18 cBB18 cW18 cXA18 cXB18 cG18 tA18 tB18 tW18 txA18 txB18 tG18
    have b20 : Below w.heap.size w w19.drew := b19.drew
    have z20 : w19.heap.size ≤ w19.drew.heap.size := Nat.le_refl _
    have cBA20 : w19.drew.cell? ⟨w.heap.size, 0, none⟩ = some (.slice aA tsA.length kA) := cBA19
    have cBB20 : w19.drew.cell? ⟨w.heap.size + 1, 0, none⟩ = some (.slice aB tsB.length kB) := cBB19
    have cW20 : w19.drew.cell? ⟨g6, 0, none⟩ = some (.slice aW (lcomb 1 tsA tsB).length kW) := cW19
    have cXA20 : w19.drew.cell? ⟨w8.heap.size, 0, none⟩ = some (.slice axA (tsA).length kxA) := cXA19
    have cXB20 : w19.drew.cell? ⟨w10.heap.size, 0, none⟩ = some (.slice axB (tsB).length kxB) := cXB19
    have cG20 : w19.drew.cell? ⟨w12.heap.size, 0, none⟩ = some (.slice aG (lcomb 1 tsA tsB).length kG) := cG19
    have tA20 : Terms false (0) (w.heap.size) w19.drew (.slice aA tsA.length kA) (tsA) := tA19
    have tB20 : Terms false (0) (w.heap.size) w19.drew (.slice aB tsB.length kB) (tsB) := tB19
    have tW20 : Terms true (w5.heap.size) (w6.heap.size) w19.drew (.slice aW (lcomb 1 tsA tsB).length kW) (lcomb 1 tsA tsB) := tW19
    have txA20 : Terms true (w7.heap.size) (w8.heap.size) w19.drew (.slice axA (tsA).length kxA) (tsA) := txA19
    have txB20 : Terms true (w9.heap.size) (w10.heap.size) w19.drew (.slice axB (tsB).length kxB) (tsB) := txB19
    have tG20 : Terms true (w11.heap.size) (w12.heap.size) w19.drew (.slice aG (lcomb 1 tsA tsB).length kG) (lcomb 1 tsA tsB) := tG19
    clear cBA19 cBB19 cW19 cXA19 cXB19 cG19 tA19 tB19 tW19 txA19 txB19 tG19
    go_region_held3 (fun w' => w'.cell? ⟨w10.heap.size, 0, none⟩ = some (.slice axB (tsB).length kxB) ∧ w'.cell? ⟨w.heap.size + 1, 0, none⟩ = some (.slice aB tsB.length kB)) (first | exact ⟨cXB20, cBB20⟩ | exact ⟨cXB21, cBB21⟩ | exact ⟨cXB22, cBB22⟩ | exact ⟨alloc_keep cXB22, alloc_keep cBB22⟩)
      (first
        | (go_at_call_of 38 (Value.agg #[Value.slice aB tsB.length kB]); refine (toLin_any _ _ _ _ _ _ tB20 (by omega) (by omega)).mono ?_; rintro e w21 ⟨u21, rfl, f21, tq21⟩; have b21 := b20.trans (f21.mono (by omega)); have z21 := f21.size; have cBA21 := cell_keep f21 cBA20; have cBB21 := cell_keep f21 cBB20; have cW21 := cell_keep f21 cW20; have cXA21 := cell_keep f21 cXA20; have cXB21 := cell_keep f21 cXB20; have cG21 := cell_keep f21 cG20; have tA21 := tA20.keep f21 (by omega); have tB21 := tB20.keep f21 (by omega); have tW21 := tW20.keep f21 (by omega); have txA21 := txA20.keep f21 (by omega); have txB21 := txB20.keep f21 (by omega); have tG21 := tG20.keep f21 (by omega); clear cBA20 cBB20 cW20 cXA20 cXB20 cG20 tA20 tB20 tW20 txA20 txB20 tG20; have tyB21 := tq21; clear tq21; obtain ⟨ayB, kyB, rfl, layB, bayB⟩ := tyB21.shape)
        | (go_at_call 39; refine (eqLin_any _ _ _ _ _ _ _ _ _ _ _ txB21 tyB21 (by omega) (by omega)).mono ?_; rw [dec_self]; rintro e w22 ⟨rfl, f22⟩; have b22 := b21.trans (f22.mono (by omega)); have z22 := f22.size; have cBA22 := cell_keep f22 cBA21; have cBB22 := cell_keep f22 cBB21; have cW22 := cell_keep f22 cW21; have cXA22 := cell_keep f22 cXA21; have cXB22 := cell_keep f22 cXB21; have cG22 := cell_keep f22 cG21; have tA22 := tA21.keep f22 (by omega); have tB22 := tB21.keep f22 (by omega); have tW22 := tW21.keep f22 (by omega); have txA22 := txA21.keep f22 (by omega); have txB22 := txB21.keep f22 (by omega); have tG22 := tG21.keep f22 (by omega); have tyB22 := tyB21.keep f22 (by omega); clear cBA21 cBB21 cW21 cXA21 cXB21 cG21 tA21 tB21 tW21 txA21 txB21 tG21 tyB21))
    clear tyB22
    go_wp2_with fail
    refine name_call fun w23 hw23 => ?_
    have b23 : Below w.heap.size w w23 := by rw [hw23]; (repeat (first | exact Below.refl _ _ | assumption | refine Below.drew ?_ | refine bdrewN ?_ _ | refine Below.alloc ?_ (by first | exact Nat.le_refl _ | (simp; done) | omega | (simp; omega)) _ | refine Below.setCell ?_ (by first | exact Nat.le_refl _ | (simp; done) | omega | (simp; omega)) _))
    have z23 : w22.heap.size + 0 ≤ w23.heap.size := by rw [hw23]; simp
    have cBA23 : w23.cell? ⟨w.heap.size, 0, none⟩ = some (.slice aA tsA.length kA) := by rw [hw23]; first | exact cBA22 | exact cBA22
    have cBB23 : w23.cell? ⟨w.heap.size + 1, 0, none⟩ = some (.slice aB tsB.length kB) := by rw [hw23]; first | exact cBB22 | exact cBB22
    have cW23 : w23.cell? ⟨g6, 0, none⟩ = some (.slice aW (lcomb 1 tsA tsB).length kW) := by rw [hw23]; first | exact cW22 | exact cW22
    have cXA23 : w23.cell? ⟨w8.heap.size, 0, none⟩ = some (.slice axA (tsA).length kxA) := by rw [hw23]; first | exact cXA22 | exact cXA22
    have cXB23 : w23.cell? ⟨w10.heap.size, 0, none⟩ = some (.slice axB (tsB).length kxB) := by rw [hw23]; first | exact cXB22 | exact cXB22
    have cG23 : w23.cell? ⟨w12.heap.size, 0, none⟩ = some (.slice aG (lcomb 1 tsA tsB).length kG) := by rw [hw23]; first | exact cG22 | exact cG22
    have tA23 := tA22.keep (show Below w22.heap.size w22 w23 by rw [hw23]; (repeat (first | exact Below.refl _ _ | assumption | refine Below.drew ?_ | refine bdrewN ?_ _ | refine Below.alloc ?_ (by first | exact Nat.le_refl _ | (simp; done) | omega | (simp; omega)) _ | refine Below.setCell ?_ (by first | exact Nat.le_refl _ | (simp; done) | omega | (simp; omega)) _))) (by omega)
    have tB23 := tB22.keep (show Below w22.heap.size w22 w23 by rw [hw23]; (repeat (first | exact Below.refl _ _ | assumption | refine Below.drew ?_ | refine bdrewN ?_ _ | refine Below.alloc ?_ (by first | exact Nat.le_refl _ | (simp; done) | omega | (simp; omega)) _ | refine Below.setCell ?_ (by first | exact Nat.le_refl _ | (simp; done) | omega | (simp; omega)) _))) (by omega)
    have tW23 := tW22.keep (show Below w22.heap.size w22 w23 by rw [hw23]; (repeat (first | exact Below.refl _ _ | assumption | refine Below.drew ?_ | refine bdrewN ?_ _ | refine Below.alloc ?_ (by first | exact Nat.le_refl _ | (simp; done) | omega | (simp; omega)) _ | refine Below.setCell ?_ (by first | exact Nat.le_refl _ | (simp; done) | omega | (simp; omega)) _))) (by omega)
    have txA23 := txA22.keep (show Below w22.heap.size w22 w23 by rw [hw23]; (repeat (first | exact Below.refl _ _ | assumption | refine Below.drew ?_ | refine bdrewN ?_ _ | refine Below.alloc ?_ (by first | exact Nat.le_refl _ | (simp; done) | omega | (simp; omega)) _ | refine Below.setCell ?_ (by first | exact Nat.le_refl _ | (simp; done) | omega | (simp; omega)) _))) (by omega)
    have txB23 := txB22.keep (show Below w22.heap.size w22 w23 by rw [hw23]; (repeat (first | exact Below.refl _ _ | assumption | refine Below.drew ?_ | refine bdrewN ?_ _ | refine Below.alloc ?_ (by first | exact Nat.le_refl _ | (simp; done) | omega | (simp; omega)) _ | refine Below.setCell ?_ (by first | exact Nat.le_refl _ | (simp; done) | omega | (simp; omega)) _))) (by omega)
    have tG23 := tG22.keep (show Below w22.heap.size w22 w23 by rw [hw23]; (repeat (first | exact Below.refl _ _ | assumption | refine Below.drew ?_ | refine bdrewN ?_ _ | refine Below.alloc ?_ (by first | exact Nat.le_refl _ | (simp; done) | omega | (simp; omega)) _ | refine Below.setCell ?_ (by first | exact Nat.le_refl _ | (simp; done) | omega | (simp; omega)) _))) (by omega)
    clear hw23
    clear cBA22 cBB22 cW22 cXA22 cXB22 cG22 tA22 tB22 tW22 txA22 txB22 tG22
    refine (markLin_any _ _ _ _ (1) w23 txA23 (by omega) (by omega) (by omega)).mono ?_; rintro e w24 ⟨rfl, f24, tq24⟩
    have b24 := b23.trans (f24.below (by omega) (by omega))
    have z24 := f24.size
    have cBA24 := (f24.cell (b := w.heap.size) (by omega) (by omega) 0).trans cBA23
    have cBB24 := (f24.cell (b := w.heap.size + 1) (by omega) (by omega) 0).trans cBB23
    have cW24 := (f24.cell (b := g6) (by omega) (by omega) 0).trans cW23
    have cXA24 := (f24.cell (b := w8.heap.size) (by omega) (by omega) 0).trans cXA23
    have cXB24 := (f24.cell (b := w10.heap.size) (by omega) (by omega) 0).trans cXB23
    have cG24 := (f24.cell (b := w12.heap.size) (by omega) (by omega) 0).trans cG23
    have tA24 := tA23.only f24 (by omega) (by omega)
    have tB24 := tB23.only f24 (by omega) (by omega)
    have tW24 := tW23.only f24 (by omega) (by omega)
    have txA24 := tq24; clear tq24
    have txB24 := txB23.only f24 (by omega) (by omega)
    have tG24 := tG23.only f24 (by omega) (by omega)
    clear cBA23 cBB23 cW23 cXA23 cXB23 cG23 tA23 tB23 tW23 txA23 txB23 tG23
    go_wp2_with fail
    refine name_call fun w25 hw25 => ?_
    have b25 : Below w.heap.size w w25 := by rw [hw25]; (repeat (first | exact Below.refl _ _ | assumption | refine Below.drew ?_ | refine bdrewN ?_ _ | refine Below.alloc ?_ (by first | exact Nat.le_refl _ | (simp; done) | omega | (simp; omega)) _ | refine Below.setCell ?_ (by first | exact Nat.le_refl _ | (simp; done) | omega | (simp; omega)) _))
    have z25 : w24.heap.size + 0 ≤ w25.heap.size := by rw [hw25]; simp
    have cBA25 : w25.cell? ⟨w.heap.size, 0, none⟩ = some (.slice aA tsA.length kA) := by rw [hw25]; first | exact cBA24 | exact cBA24
    have cBB25 : w25.cell? ⟨w.heap.size + 1, 0, none⟩ = some (.slice aB tsB.length kB) := by rw [hw25]; first | exact cBB24 | exact cBB24
    have cW25 : w25.cell? ⟨g6, 0, none⟩ = some (.slice aW (lcomb 1 tsA tsB).length kW) := by rw [hw25]; first | exact cW24 | exact cW24
    have cXA25 : w25.cell? ⟨w8.heap.size, 0, none⟩ = some (.slice axA (tsA).length kxA) := by rw [hw25]; first | exact cXA24 | exact cXA24
    have cXB25 : w25.cell? ⟨w10.heap.size, 0, none⟩ = some (.slice axB (tsB).length kxB) := by rw [hw25]; first | exact cXB24 | exact cXB24
    have cG25 : w25.cell? ⟨w12.heap.size, 0, none⟩ = some (.slice aG (lcomb 1 tsA tsB).length kG) := by rw [hw25]; first | exact cG24 | exact cG24
    have tA25 := tA24.keep (show Below w24.heap.size w24 w25 by rw [hw25]; (repeat (first | exact Below.refl _ _ | assumption | refine Below.drew ?_ | refine bdrewN ?_ _ | refine Below.alloc ?_ (by first | exact Nat.le_refl _ | (simp; done) | omega | (simp; omega)) _ | refine Below.setCell ?_ (by first | exact Nat.le_refl _ | (simp; done) | omega | (simp; omega)) _))) (by omega)
    have tB25 := tB24.keep (show Below w24.heap.size w24 w25 by rw [hw25]; (repeat (first | exact Below.refl _ _ | assumption | refine Below.drew ?_ | refine bdrewN ?_ _ | refine Below.alloc ?_ (by first | exact Nat.le_refl _ | (simp; done) | omega | (simp; omega)) _ | refine Below.setCell ?_ (by first | exact Nat.le_refl _ | (simp; done) | omega | (simp; omega)) _))) (by omega)
    have tW25 := tW24.keep (show Below w24.heap.size w24 w25 by rw [hw25]; (repeat (first | exact Below.refl _ _ | assumption | refine Below.drew ?_ | refine bdrewN ?_ _ | refine Below.alloc ?_ (by first | exact Nat.le_refl _ | (simp; done) | omega | (simp; omega)) _ | refine Below.setCell ?_ (by first | exact Nat.le_refl _ | (simp; done) | omega | (simp; omega)) _))) (by omega)
    have txA25 := txA24.keep (show Below w24.heap.size w24 w25 by rw [hw25]; (repeat (first | exact Below.refl _ _ | assumption | refine Below.drew ?_ | refine bdrewN ?_ _ | refine Below.alloc ?_ (by first | exact Nat.le_refl _ | (simp; done) | omega | (simp; omega)) _ | refine Below.setCell ?_ (by first | exact Nat.le_refl _ | (simp; done) | omega | (simp; omega)) _))) (by omega)
    have txB25 := txB24.keep (show Below w24.heap.size w24 w25 by rw [hw25]; (repeat (first | exact Below.refl _ _ | assumption | refine Below.drew ?_ | refine bdrewN ?_ _ | refine Below.alloc ?_ (by first | exact Nat.le_refl _ | (simp; done) | omega | (simp; omega)) _ | refine Below.setCell ?_ (by first | exact Nat.le_refl _ | (simp; done) | omega | (simp; omega)) _))) (by omega)
    have tG25 := tG24.keep (show Below w24.heap.size w24 w25 by rw [hw25]; (repeat (first | exact Below.refl _ _ | assumption | refine Below.drew ?_ | refine bdrewN ?_ _ | refine Below.alloc ?_ (by first | exact Nat.le_refl _ | (simp; done) | omega | (simp; omega)) _ | refine Below.setCell ?_ (by first | exact Nat.le_refl _ | (simp; done) | omega | (simp; omega)) _))) (by omega)
    clear hw25
    clear cBA24 cBB24 cW24 cXA24 cXB24 cG24 tA24 tB24 tW24 txA24 txB24 tG24
    refine (markLin_any _ _ _ _ (1 + 2 * tsA.length) w25 txB25 (by omega) (by omega) (by omega)).mono ?_; rintro e w26 ⟨rfl, f26, tq26⟩
    have b26 := b25.trans (f26.below (by omega) (by omega))
    have z26 := f26.size
    have cBA26 := (f26.cell (b := w.heap.size) (by omega) (by omega) 0).trans cBA25
    have cBB26 := (f26.cell (b := w.heap.size + 1) (by omega) (by omega) 0).trans cBB25
    have cW26 := (f26.cell (b := g6) (by omega) (by omega) 0).trans cW25
    have cXA26 := (f26.cell (b := w8.heap.size) (by omega) (by omega) 0).trans cXA25
    have cXB26 := (f26.cell (b := w10.heap.size) (by omega) (by omega) 0).trans cXB25
    have cG26 := (f26.cell (b := w12.heap.size) (by omega) (by omega) 0).trans cG25
    have tA26 := tA25.only f26 (by omega) (by omega)
    have tB26 := tB25.only f26 (by omega) (by omega)
    have tW26 := tW25.only f26 (by omega) (by omega)
    have txA26 := txA25.only f26 (by omega) (by omega)
    have txB26 := tq26; clear tq26
    have tG26 := tG25.only f26 (by omega) (by omega)
    clear cBA25 cBB25 cW25 cXA25 cXB25 cG25 tA25 tB25 tW25 txA25 txB25 tG25
    go_wp2_with fail
    refine name_call fun w27 hw27 => ?_
    have b27 : Below w.heap.size w w27 := by rw [hw27]; (repeat (first | exact Below.refl _ _ | assumption | refine Below.drew ?_ | refine bdrewN ?_ _ | refine Below.alloc ?_ (by first | exact Nat.le_refl _ | (simp; done) | omega | (simp; omega)) _ | refine Below.setCell ?_ (by first | exact Nat.le_refl _ | (simp; done) | omega | (simp; omega)) _))
    have z27 : w26.heap.size + 0 ≤ w27.heap.size := by rw [hw27]; simp
    have cBA27 : w27.cell? ⟨w.heap.size, 0, none⟩ = some (.slice aA tsA.length kA) := by rw [hw27]; first | exact cBA26 | exact cBA26
    have cBB27 : w27.cell? ⟨w.heap.size + 1, 0, none⟩ = some (.slice aB tsB.length kB) := by rw [hw27]; first | exact cBB26 | exact cBB26
    have cW27 : w27.cell? ⟨g6, 0, none⟩ = some (.slice aW (lcomb 1 tsA tsB).length kW) := by rw [hw27]; first | exact cW26 | exact cW26
    have cXA27 : w27.cell? ⟨w8.heap.size, 0, none⟩ = some (.slice axA (tsA).length kxA) := by rw [hw27]; first | exact cXA26 | exact cXA26
    have cXB27 : w27.cell? ⟨w10.heap.size, 0, none⟩ = some (.slice axB (tsB).length kxB) := by rw [hw27]; first | exact cXB26 | exact cXB26
    have cG27 : w27.cell? ⟨w12.heap.size, 0, none⟩ = some (.slice aG (lcomb 1 tsA tsB).length kG) := by rw [hw27]; first | exact cG26 | exact cG26
    have tA27 := tA26.keep (show Below w26.heap.size w26 w27 by rw [hw27]; (repeat (first | exact Below.refl _ _ | assumption | refine Below.drew ?_ | refine bdrewN ?_ _ | refine Below.alloc ?_ (by first | exact Nat.le_refl _ | (simp; done) | omega | (simp; omega)) _ | refine Below.setCell ?_ (by first | exact Nat.le_refl _ | (simp; done) | omega | (simp; omega)) _))) (by omega)
    have tB27 := tB26.keep (show Below w26.heap.size w26 w27 by rw [hw27]; (repeat (first | exact Below.refl _ _ | assumption | refine Below.drew ?_ | refine bdrewN ?_ _ | refine Below.alloc ?_ (by first | exact Nat.le_refl _ | (simp; done) | omega | (simp; omega)) _ | refine Below.setCell ?_ (by first | exact Nat.le_refl _ | (simp; done) | omega | (simp; omega)) _))) (by omega)
    have tW27 := tW26.keep (show Below w26.heap.size w26 w27 by rw [hw27]; (repeat (first | exact Below.refl _ _ | assumption | refine Below.drew ?_ | refine bdrewN ?_ _ | refine Below.alloc ?_ (by first | exact Nat.le_refl _ | (simp; done) | omega | (simp; omega)) _ | refine Below.setCell ?_ (by first | exact Nat.le_refl _ | (simp; done) | omega | (simp; omega)) _))) (by omega)
    have txA27 := txA26.keep (show Below w26.heap.size w26 w27 by rw [hw27]; (repeat (first | exact Below.refl _ _ | assumption | refine Below.drew ?_ | refine bdrewN ?_ _ | refine Below.alloc ?_ (by first | exact Nat.le_refl _ | (simp; done) | omega | (simp; omega)) _ | refine Below.setCell ?_ (by first | exact Nat.le_refl _ | (simp; done) | omega | (simp; omega)) _))) (by omega)
    have txB27 := txB26.keep (show Below w26.heap.size w26 w27 by rw [hw27]; (repeat (first | exact Below.refl _ _ | assumption | refine Below.drew ?_ | refine bdrewN ?_ _ | refine Below.alloc ?_ (by first | exact Nat.le_refl _ | (simp; done) | omega | (simp; omega)) _ | refine Below.setCell ?_ (by first | exact Nat.le_refl _ | (simp; done) | omega | (simp; omega)) _))) (by omega)
    have tG27 := tG26.keep (show Below w26.heap.size w26 w27 by rw [hw27]; (repeat (first | exact Below.refl _ _ | assumption | refine Below.drew ?_ | refine bdrewN ?_ _ | refine Below.alloc ?_ (by first | exact Nat.le_refl _ | (simp; done) | omega | (simp; omega)) _ | refine Below.setCell ?_ (by first | exact Nat.le_refl _ | (simp; done) | omega | (simp; omega)) _))) (by omega)
    clear hw27
    clear cBA26 cBB26 cW26 cXA26 cXB26 cG26 tA26 tB26 tW26 txA26 txB26 tG26
    refine (eqLin_any _ _ _ _ _ _ _ _ _ _ _ tG27 tW27 (by omega) (by omega)).mono ?_; rw [dec_self]; rintro e w28 ⟨rfl, f28⟩
    have b28 := b27.trans (f28.mono (by omega))
    have z28 := f28.size
    have cBA28 := cell_keep f28 cBA27
    have cBB28 := cell_keep f28 cBB27
    have cW28 := cell_keep f28 cW27
    have cXA28 := cell_keep f28 cXA27
    have cXB28 := cell_keep f28 cXB27
    have cG28 := cell_keep f28 cG27
    have tA28 := tA27.keep f28 (by omega)
    have tB28 := tB27.keep f28 (by omega)
    have tW28 := tW27.keep f28 (by omega)
    have txA28 := txA27.keep f28 (by omega)
    have txB28 := txB27.keep f28 (by omega)
    have tG28 := tG27.keep f28 (by omega)
    clear cBA27 cBB27 cW27 cXA27 cXB27 cG27 tA27 tB27 tW27 txA27 txB27 tG27
    clear txA28
    clear txB28
    go_wp2_with fail
    refine name_call fun w29 hw29 => ?_
    have b29 : Below w.heap.size w w29 := by rw [hw29]; (repeat (first | exact Below.refl _ _ | assumption | refine Below.drew ?_ | refine bdrewN ?_ _ | refine Below.alloc ?_ (by first | exact Nat.le_refl _ | (simp; done) | omega | (simp; omega)) _ | refine Below.setCell ?_ (by first | exact Nat.le_refl _ | (simp; done) | omega | (simp; omega)) _))
    have z29 : w28.heap.size + 0 ≤ w29.heap.size := by rw [hw29]; simp
    have cBA29 : w29.cell? ⟨w.heap.size, 0, none⟩ = some (.slice aA tsA.length kA) := by rw [hw29]; first | exact cBA28 | exact cBA28
    have cBB29 : w29.cell? ⟨w.heap.size + 1, 0, none⟩ = some (.slice aB tsB.length kB) := by rw [hw29]; first | exact cBB28 | exact cBB28
    have cW29 : w29.cell? ⟨g6, 0, none⟩ = some (.slice aW (lcomb 1 tsA tsB).length kW) := by rw [hw29]; first | exact cW28 | exact cW28
    have cXA29 : w29.cell? ⟨w8.heap.size, 0, none⟩ = some (.slice axA (tsA).length kxA) := by rw [hw29]; first | exact cXA28 | exact cXA28
    have cXB29 : w29.cell? ⟨w10.heap.size, 0, none⟩ = some (.slice axB (tsB).length kxB) := by rw [hw29]; first | exact cXB28 | exact cXB28
    have cG29 : w29.cell? ⟨w12.heap.size, 0, none⟩ = some (.slice aG (lcomb 1 tsA tsB).length kG) := by rw [hw29]; first | exact cG28 | exact cG28
    have tA29 := tA28.keep (show Below w28.heap.size w28 w29 by rw [hw29]; (repeat (first | exact Below.refl _ _ | assumption | refine Below.drew ?_ | refine bdrewN ?_ _ | refine Below.alloc ?_ (by first | exact Nat.le_refl _ | (simp; done) | omega | (simp; omega)) _ | refine Below.setCell ?_ (by first | exact Nat.le_refl _ | (simp; done) | omega | (simp; omega)) _))) (by omega)
    have tB29 := tB28.keep (show Below w28.heap.size w28 w29 by rw [hw29]; (repeat (first | exact Below.refl _ _ | assumption | refine Below.drew ?_ | refine bdrewN ?_ _ | refine Below.alloc ?_ (by first | exact Nat.le_refl _ | (simp; done) | omega | (simp; omega)) _ | refine Below.setCell ?_ (by first | exact Nat.le_refl _ | (simp; done) | omega | (simp; omega)) _))) (by omega)
    have tW29 := tW28.keep (show Below w28.heap.size w28 w29 by rw [hw29]; (repeat (first | exact Below.refl _ _ | assumption | refine Below.drew ?_ | refine bdrewN ?_ _ | refine Below.alloc ?_ (by first | exact Nat.le_refl _ | (simp; done) | omega | (simp; omega)) _ | refine Below.setCell ?_ (by first | exact Nat.le_refl _ | (simp; done) | omega | (simp; omega)) _))) (by omega)
    have tG29 := tG28.keep (show Below w28.heap.size w28 w29 by rw [hw29]; (repeat (first | exact Below.refl _ _ | assumption | refine Below.drew ?_ | refine bdrewN ?_ _ | refine Below.alloc ?_ (by first | exact Nat.le_refl _ | (simp; done) | omega | (simp; omega)) _ | refine Below.setCell ?_ (by first | exact Nat.le_refl _ | (simp; done) | omega | (simp; omega)) _))) (by omega)
    clear hw29
    clear cBA28 cBB28 cW28 cXA28 cXB28 cG28 tA28 tB28 tW28 tG28
    refine (markLin_any _ _ _ _ (1) w29 tG29 (by omega) (by omega) (by omega)).mono ?_; rintro e w30 ⟨rfl, f30, tq30⟩
    have b30 := b29.trans (f30.below (by omega) (by omega))
    have z30 := f30.size
    have cBA30 := (f30.cell (b := w.heap.size) (by omega) (by omega) 0).trans cBA29
    have cBB30 := (f30.cell (b := w.heap.size + 1) (by omega) (by omega) 0).trans cBB29
    have cW30 := (f30.cell (b := g6) (by omega) (by omega) 0).trans cW29
    have cXA30 := (f30.cell (b := w8.heap.size) (by omega) (by omega) 0).trans cXA29
    have cXB30 := (f30.cell (b := w10.heap.size) (by omega) (by omega) 0).trans cXB29
    have cG30 := (f30.cell (b := w12.heap.size) (by omega) (by omega) 0).trans cG29
    have tA30 := tA29.only f30 (by omega) (by omega)
    have tB30 := tB29.only f30 (by omega) (by omega)
    have tW30 := tW29.only f30 (by omega) (by omega)
    have tG30 := tq30; clear tq30
    clear cBA29 cBB29 cW29 cXA29 cXB29 cG29 tA29 tB29 tW29 tG29
    go_wp2_with fail
    refine name_call fun w31 hw31 => ?_
    have b31 : Below w.heap.size w w31 := by rw [hw31]; (repeat (first | exact Below.refl _ _ | assumption | refine Below.drew ?_ | refine bdrewN ?_ _ | refine Below.alloc ?_ (by first | exact Nat.le_refl _ | (simp; done) | omega | (simp; omega)) _ | refine Below.setCell ?_ (by first | exact Nat.le_refl _ | (simp; done) | omega | (simp; omega)) _))
    have z31 : w30.heap.size + 0 ≤ w31.heap.size := by rw [hw31]; simp
    have cBA31 : w31.cell? ⟨w.heap.size, 0, none⟩ = some (.slice aA tsA.length kA) := by rw [hw31]; first | exact cBA30 | exact cBA30
    have cBB31 : w31.cell? ⟨w.heap.size + 1, 0, none⟩ = some (.slice aB tsB.length kB) := by rw [hw31]; first | exact cBB30 | exact cBB30
    have cW31 : w31.cell? ⟨g6, 0, none⟩ = some (.slice aW (lcomb 1 tsA tsB).length kW) := by rw [hw31]; first | exact cW30 | exact cW30
    have cXA31 : w31.cell? ⟨w8.heap.size, 0, none⟩ = some (.slice axA (tsA).length kxA) := by rw [hw31]; first | exact cXA30 | exact cXA30
    have cXB31 : w31.cell? ⟨w10.heap.size, 0, none⟩ = some (.slice axB (tsB).length kxB) := by rw [hw31]; first | exact cXB30 | exact cXB30
    have cG31 : w31.cell? ⟨w12.heap.size, 0, none⟩ = some (.slice aG (lcomb 1 tsA tsB).length kG) := by rw [hw31]; first | exact cG30 | exact cG30
    have tA31 := tA30.keep (show Below w30.heap.size w30 w31 by rw [hw31]; (repeat (first | exact Below.refl _ _ | assumption | refine Below.drew ?_ | refine bdrewN ?_ _ | refine Below.alloc ?_ (by first | exact Nat.le_refl _ | (simp; done) | omega | (simp; omega)) _ | refine Below.setCell ?_ (by first | exact Nat.le_refl _ | (simp; done) | omega | (simp; omega)) _))) (by omega)
    have tB31 := tB30.keep (show Below w30.heap.size w30 w31 by rw [hw31]; (repeat (first | exact Below.refl _ _ | assumption | refine Below.drew ?_ | refine bdrewN ?_ _ | refine Below.alloc ?_ (by first | exact Nat.le_refl _ | (simp; done) | omega | (simp; omega)) _ | refine Below.setCell ?_ (by first | exact Nat.le_refl _ | (simp; done) | omega | (simp; omega)) _))) (by omega)
    have tW31 := tW30.keep (show Below w30.heap.size w30 w31 by rw [hw31]; (repeat (first | exact Below.refl _ _ | assumption | refine Below.drew ?_ | refine bdrewN ?_ _ | refine Below.alloc ?_ (by first | exact Nat.le_refl _ | (simp; done) | omega | (simp; omega)) _ | refine Below.setCell ?_ (by first | exact Nat.le_refl _ | (simp; done) | omega | (simp; omega)) _))) (by omega)
    have tG31 := tG30.keep (show Below w30.heap.size w30 w31 by rw [hw31]; (repeat (first | exact Below.refl _ _ | assumption | refine Below.drew ?_ | refine bdrewN ?_ _ | refine Below.alloc ?_ (by first | exact Nat.le_refl _ | (simp; done) | omega | (simp; omega)) _ | refine Below.setCell ?_ (by first | exact Nat.le_refl _ | (simp; done) | omega | (simp; omega)) _))) (by omega)
    clear hw31
    clear cBA30 cBB30 cW30 cXA30 cXB30 cG30 tA30 tB30 tW30 tG30
    refine (heldLin_any _ _ _ _ _ 1 _ tG31 (by omega) (by omega) (by omega)).mono ?_; rintro e w32 ⟨rfl, f32⟩
    have b32 := b31.trans (f32.mono (by omega))
    have z32 := f32.size
    have cBA32 := cell_keep f32 cBA31
    have cBB32 := cell_keep f32 cBB31
    have cW32 := cell_keep f32 cW31
    have cXA32 := cell_keep f32 cXA31
    have cXB32 := cell_keep f32 cXB31
    have cG32 := cell_keep f32 cG31
    have tA32 := tA31.keep f32 (by omega)
    have tB32 := tB31.keep f32 (by omega)
    have tW32 := tW31.keep f32 (by omega)
    have tG32 := tG31.keep f32 (by omega)
    clear cBA31 cBB31 cW31 cXA31 cXB31 cG31 tA31 tB31 tW31 tG31
    go_wp2_with fail
    refine name_wp fun w33 hw33 => ?_
    have b33 : Below w.heap.size w w33 := by rw [hw33]; (repeat (first | exact Below.refl _ _ | assumption | refine Below.drew ?_ | refine bdrewN ?_ _ | refine Below.alloc ?_ (by first | exact Nat.le_refl _ | (simp; done) | omega | (simp; omega)) _ | refine Below.setCell ?_ (by first | exact Nat.le_refl _ | (simp; done) | omega | (simp; omega)) _))
    have z33 : w32.heap.size + 0 ≤ w33.heap.size := by rw [hw33]; simp
    have cBA33 : w33.cell? ⟨w.heap.size, 0, none⟩ = some (.slice aA tsA.length kA) := by rw [hw33]; first | exact cBA32 | exact cBA32
    have cBB33 : w33.cell? ⟨w.heap.size + 1, 0, none⟩ = some (.slice aB tsB.length kB) := by rw [hw33]; first | exact cBB32 | exact cBB32
    have cW33 : w33.cell? ⟨g6, 0, none⟩ = some (.slice aW (lcomb 1 tsA tsB).length kW) := by rw [hw33]; first | exact cW32 | exact cW32
    have cXA33 : w33.cell? ⟨w8.heap.size, 0, none⟩ = some (.slice axA (tsA).length kxA) := by rw [hw33]; first | exact cXA32 | exact cXA32
    have cXB33 : w33.cell? ⟨w10.heap.size, 0, none⟩ = some (.slice axB (tsB).length kxB) := by rw [hw33]; first | exact cXB32 | exact cXB32
    have cG33 : w33.cell? ⟨w12.heap.size, 0, none⟩ = some (.slice aG (lcomb 1 tsA tsB).length kG) := by rw [hw33]; first | exact cG32 | exact cG32
    have tA33 := tA32.keep (show Below w32.heap.size w32 w33 by rw [hw33]; (repeat (first | exact Below.refl _ _ | assumption | refine Below.drew ?_ | refine bdrewN ?_ _ | refine Below.alloc ?_ (by first | exact Nat.le_refl _ | (simp; done) | omega | (simp; omega)) _ | refine Below.setCell ?_ (by first | exact Nat.le_refl _ | (simp; done) | omega | (simp; omega)) _))) (by omega)
    have tB33 := tB32.keep (show Below w32.heap.size w32 w33 by rw [hw33]; (repeat (first | exact Below.refl _ _ | assumption | refine Below.drew ?_ | refine bdrewN ?_ _ | refine Below.alloc ?_ (by first | exact Nat.le_refl _ | (simp; done) | omega | (simp; omega)) _ | refine Below.setCell ?_ (by first | exact Nat.le_refl _ | (simp; done) | omega | (simp; omega)) _))) (by omega)
    have tW33 := tW32.keep (show Below w32.heap.size w32 w33 by rw [hw33]; (repeat (first | exact Below.refl _ _ | assumption | refine Below.drew ?_ | refine bdrewN ?_ _ | refine Below.alloc ?_ (by first | exact Nat.le_refl _ | (simp; done) | omega | (simp; omega)) _ | refine Below.setCell ?_ (by first | exact Nat.le_refl _ | (simp; done) | omega | (simp; omega)) _))) (by omega)
    have tG33 := tG32.keep (show Below w32.heap.size w32 w33 by rw [hw33]; (repeat (first | exact Below.refl _ _ | assumption | refine Below.drew ?_ | refine bdrewN ?_ _ | refine Below.alloc ?_ (by first | exact Nat.le_refl _ | (simp; done) | omega | (simp; omega)) _ | refine Below.setCell ?_ (by first | exact Nat.le_refl _ | (simp; done) | omega | (simp; omega)) _))) (by omega)
    clear hw33
    clear cBA32 cBB32 cW32 cXA32 cXB32 cG32 tA32 tB32 tW32 tG32
    have d33 : Below w33.heap.size w33 w33.drew := (Below.refl _ _).drew
    have zd33 : w33.drew.heap.size ≤ w33.heap.size := Nat.le_refl _
    have ze33 : w33.heap.size ≤ w33.drew.heap.size := Nat.le_refl _
    have eBA : w33.drew.cell? ⟨w.heap.size, 0, none⟩ = some (.slice aA tsA.length kA) := cell_keep d33 cBA33
    have eBB : w33.drew.cell? ⟨w.heap.size + 1, 0, none⟩ = some (.slice aB tsB.length kB) := cell_keep d33 cBB33
    have eA := tA33.keep d33 (by omega)
    have eB := tB33.keep d33 (by omega)
    go_cut [15, 16] (fun s15 s16 wx => CutW w33 (lcomb 1 tsA tsB) (lok tsA tsB) s15 s16 wx)
    case first =>
      go_region_held3 (fun w' => w'.cell? ⟨w.heap.size, 0, none⟩ = some (.slice aA tsA.length kA) ∧ w'.cell? ⟨w.heap.size + 1, 0, none⟩ = some (.slice aB tsB.length kB) ∧ Below w33.drew.heap.size w33.drew w') (first | exact ⟨eBA, eBB, Below.refl _ _⟩ | exact keep2 eBA eBB (by (repeat (first | exact Below.refl _ _ | assumption | refine Below.alloc ?_ (by first | exact Nat.le_refl _ | exact Below.size (by assumption) | (simp; done) | omega | (simp; omega)) _ | refine Below.setCell ?_ (by first | exact Nat.le_refl _ | exact Below.size (by assumption) | (simp; done) | omega | (simp; omega)) _))))
        (first
          | (go_at_call_of 38 (Value.agg #[Value.slice aA tsA.length kA]); refine (toLin_any _ _ _ _ _ _ (eA.keep (B := w33.drew.heap.size) (by (repeat (first | exact Below.refl _ _ | assumption | refine Below.alloc ?_ (by first | exact Nat.le_refl _ | exact Below.size (by assumption) | (simp; done) | omega | (simp; omega)) _ | refine Below.setCell ?_ (by first | exact Nat.le_refl _ | exact Below.size (by assumption) | (simp; done) | omega | (simp; omega)) _))) (by omega)) (Nat.le_trans (show w.heap.size ≤ w33.drew.heap.size by omega) (Below.size (B := w33.drew.heap.size) (by (repeat (first | exact Below.refl _ _ | assumption | refine Below.alloc ?_ (by first | exact Nat.le_refl _ | exact Below.size (by assumption) | (simp; done) | omega | (simp; omega)) _ | refine Below.setCell ?_ (by first | exact Nat.le_refl _ | exact Below.size (by assumption) | (simp; done) | omega | (simp; omega)) _))))) (by omega)).mono ?_; rintro e p0 ⟨q0, rfl, g0, r0⟩; obtain ⟨am0, km0, rfl, lm0, bm0⟩ := r0.shape; have G0 := chain_step g0 (show Below w33.drew.heap.size w33.drew _ by (repeat (first | exact Below.refl _ _ | assumption | refine Below.alloc ?_ (by first | exact Nat.le_refl _ | exact Below.size (by assumption) | (simp; done) | omega | (simp; omega)) _ | refine Below.setCell ?_ (by first | exact Nat.le_refl _ | exact Below.size (by assumption) | (simp; done) | omega | (simp; omega)) _))); have ⟨hc0, hf0⟩ := bcell g0; have z0q := g0.size; (try simp at z0q); (try have y0x : w33.heap.size < p0.heap.size := by omega))
          | (go_at_call_of 38 (Value.agg #[Value.slice aB tsB.length kB]); refine (toLin_any _ _ _ _ _ _ (eB.keep (B := w33.drew.heap.size) (by (repeat (first | exact Below.refl _ _ | assumption | refine Below.alloc ?_ (by first | exact Nat.le_refl _ | exact Below.size (by assumption) | (simp; done) | omega | (simp; omega)) _ | refine Below.setCell ?_ (by first | exact Nat.le_refl _ | exact Below.size (by assumption) | (simp; done) | omega | (simp; omega)) _))) (by omega)) (Nat.le_trans (show w.heap.size ≤ w33.drew.heap.size by omega) (Below.size (B := w33.drew.heap.size) (by (repeat (first | exact Below.refl _ _ | assumption | refine Below.alloc ?_ (by first | exact Nat.le_refl _ | exact Below.size (by assumption) | (simp; done) | omega | (simp; omega)) _ | refine Below.setCell ?_ (by first | exact Nat.le_refl _ | exact Below.size (by assumption) | (simp; done) | omega | (simp; omega)) _))))) (by omega)).mono ?_; rintro e p1 ⟨q1, rfl, g1, r1⟩; obtain ⟨am1, km1, rfl, lm1, bm1⟩ := r1.shape; have G1 := chain_step g1 (show Below w33.drew.heap.size w33.drew _ by (repeat (first | exact Below.refl _ _ | assumption | refine Below.alloc ?_ (by first | exact Nat.le_refl _ | exact Below.size (by assumption) | (simp; done) | omega | (simp; omega)) _ | refine Below.setCell ?_ (by first | exact Nat.le_refl _ | exact Below.size (by assumption) | (simp; done) | omega | (simp; omega)) _))); have ⟨hc1, hf1⟩ := bcell g1; have z1q := g1.size; (try simp at z1q); (try have y1x : w33.heap.size < p1.heap.size := by omega); (try have y1x0 : p0.heap.size < p1.heap.size := by omega); have G01 := chain_step g1 (show Below p0.heap.size p0 _ by (repeat (first | exact Below.refl _ _ | assumption | refine Below.alloc ?_ (by first | exact Nat.le_refl _ | exact Below.size (by assumption) | (simp; done) | omega | (simp; omega)) _ | refine Below.setCell ?_ (by first | exact Nat.le_refl _ | exact Below.size (by assumption) | (simp; done) | omega | (simp; omega)) _))))
          | (go_at_call 21; refine (linAdd_impl _ _ _ _ _ _ _ _ _ _ _ (r0.keep (B := p0.heap.size) (by (repeat (first | exact Below.refl _ _ | assumption | refine Below.alloc ?_ (by first | exact Nat.le_refl _ | exact Below.size (by assumption) | (simp; done) | omega | (simp; omega)) _ | refine Below.setCell ?_ (by first | exact Nat.le_refl _ | exact Below.size (by assumption) | (simp; done) | omega | (simp; omega)) _))) (Nat.le_refl _)) (Below.size (B := p0.heap.size) (by (repeat (first | exact Below.refl _ _ | assumption | refine Below.alloc ?_ (by first | exact Nat.le_refl _ | exact Below.size (by assumption) | (simp; done) | omega | (simp; omega)) _ | refine Below.setCell ?_ (by first | exact Nat.le_refl _ | exact Below.size (by assumption) | (simp; done) | omega | (simp; omega)) _)))) (r1.keep (B := p1.heap.size) (by (repeat (first | exact Below.refl _ _ | assumption | refine Below.alloc ?_ (by first | exact Nat.le_refl _ | exact Below.size (by assumption) | (simp; done) | omega | (simp; omega)) _ | refine Below.setCell ?_ (by first | exact Nat.le_refl _ | exact Below.size (by assumption) | (simp; done) | omega | (simp; omega)) _))) (Nat.le_refl _)) (Below.size (B := p1.heap.size) (by (repeat (first | exact Below.refl _ _ | assumption | refine Below.alloc ?_ (by first | exact Nat.le_refl _ | exact Below.size (by assumption) | (simp; done) | omega | (simp; omega)) _ | refine Below.setCell ?_ (by first | exact Nat.le_refl _ | exact Below.size (by assumption) | (simp; done) | omega | (simp; omega)) _))))).mono ?_; rintro e p2 ⟨q2, rfl, g2, r2⟩; obtain ⟨am2, km2, rfl, lm2, bm2⟩ := r2.shape; have G2 := chain_step g2 (show Below w33.drew.heap.size w33.drew _ by (repeat (first | exact Below.refl _ _ | assumption | refine Below.alloc ?_ (by first | exact Nat.le_refl _ | exact Below.size (by assumption) | (simp; done) | omega | (simp; omega)) _ | refine Below.setCell ?_ (by first | exact Nat.le_refl _ | exact Below.size (by assumption) | (simp; done) | omega | (simp; omega)) _))); have ⟨hc2, hf2⟩ := bcell g2))
      all_goals go_wp2_with fail
      all_goals go_meet
      all_goals (first | exact cutW_alloc d33 G2 r2 (by first | omega | (simp; done) | (simp; omega)) | exact cutW_set d33 G2 r2 (by first | omega | (simp; done) | (simp; omega)) (by first | omega | (simp; done) | (simp; omega)) (by simp (disch := first | omega | (simp; done) | (simp; omega)) [hc2, hc0, hc1]))
    case rest =>
      clear eBA eBB eA eB
      obtain ⟨g34, aH, kH, rfl, rfl, hg34, cH34, b034, tH34⟩ := hcut
      obtain ⟨w34, hw34⟩ : ∃ x, x = wc := ⟨_, rfl⟩
      subst hw34
      have b34 : Below w.heap.size w w34 := b33.trans (b034.mono (by omega))
      have z34 : w33.heap.size ≤ w34.heap.size := b034.size
      have lg34 : g34 < w34.heap.size := World.block_lt_of_cell? w34 _ cH34
      have cBA34 := cell_keep b034 cBA33
      have cBB34 := cell_keep b034 cBB33
      have cW34 := cell_keep b034 cW33
      have cXA34 := cell_keep b034 cXA33
      have cXB34 := cell_keep b034 cXB33
      have cG34 := cell_keep b034 cG33
      have tA34 := tA33.keep b034 (by omega)
      have tB34 := tB33.keep b034 (by omega)
      have tW34 := tW33.keep b034 (by omega)
      have tG34 := tG33.keep b034 (by omega)
      clear cBA33 cBB33 cW33 cXA33 cXB33 cG33 tA33 tB33 tW33 tG33
      obtain ⟨laH, baH⟩ : (lcomb 1 tsA tsB).length ≤ kH ∧ kH ≤ 9223372036854775807 := by obtain ⟨_, _, e, h1, h2⟩ := tH34.shape; cases e; exact ⟨h1, h2⟩
      go_wp2_with fail
      refine name_call fun w35 hw35 => ?_
      have b35 : Below w.heap.size w w35 := by rw [hw35]; (repeat (first | exact Below.refl _ _ | assumption | refine Below.drew ?_ | refine bdrewN ?_ _ | refine Below.alloc ?_ (by first | exact Nat.le_refl _ | (simp; done) | omega | (simp; omega)) _ | refine Below.setCell ?_ (by first | exact Nat.le_refl _ | (simp; done) | omega | (simp; omega)) _))
      have z35 : w34.heap.size + 0 ≤ w35.heap.size := by rw [hw35]; simp
      have cBA35 : w35.cell? ⟨w.heap.size, 0, none⟩ = some (.slice aA tsA.length kA) := by rw [hw35]; first | exact cBA34 | exact cBA34
      have cBB35 : w35.cell? ⟨w.heap.size + 1, 0, none⟩ = some (.slice aB tsB.length kB) := by rw [hw35]; first | exact cBB34 | exact cBB34
      have cW35 : w35.cell? ⟨g6, 0, none⟩ = some (.slice aW (lcomb 1 tsA tsB).length kW) := by rw [hw35]; first | exact cW34 | exact cW34
      have cXA35 : w35.cell? ⟨w8.heap.size, 0, none⟩ = some (.slice axA (tsA).length kxA) := by rw [hw35]; first | exact cXA34 | exact cXA34
      have cXB35 : w35.cell? ⟨w10.heap.size, 0, none⟩ = some (.slice axB (tsB).length kxB) := by rw [hw35]; first | exact cXB34 | exact cXB34
      have cG35 : w35.cell? ⟨w12.heap.size, 0, none⟩ = some (.slice aG (lcomb 1 tsA tsB).length kG) := by rw [hw35]; first | exact cG34 | exact cG34
      have cH35 : w35.cell? ⟨g34, 0, none⟩ = some (.slice aH (lcomb 1 tsA tsB).length kH) := by rw [hw35]; first | exact cH34 | exact cH34
      have tA35 := tA34.keep (show Below w34.heap.size w34 w35 by rw [hw35]; (repeat (first | exact Below.refl _ _ | assumption | refine Below.drew ?_ | refine bdrewN ?_ _ | refine Below.alloc ?_ (by first | exact Nat.le_refl _ | (simp; done) | omega | (simp; omega)) _ | refine Below.setCell ?_ (by first | exact Nat.le_refl _ | (simp; done) | omega | (simp; omega)) _))) (by omega)
      have tB35 := tB34.keep (show Below w34.heap.size w34 w35 by rw [hw35]; (repeat (first | exact Below.refl _ _ | assumption | refine Below.drew ?_ | refine bdrewN ?_ _ | refine Below.alloc ?_ (by first | exact Nat.le_refl _ | (simp; done) | omega | (simp; omega)) _ | refine Below.setCell ?_ (by first | exact Nat.le_refl _ | (simp; done) | omega | (simp; omega)) _))) (by omega)
      have tW35 := tW34.keep (show Below w34.heap.size w34 w35 by rw [hw35]; (repeat (first | exact Below.refl _ _ | assumption | refine Below.drew ?_ | refine bdrewN ?_ _ | refine Below.alloc ?_ (by first | exact Nat.le_refl _ | (simp; done) | omega | (simp; omega)) _ | refine Below.setCell ?_ (by first | exact Nat.le_refl _ | (simp; done) | omega | (simp; omega)) _))) (by omega)
      have tG35 := tG34.keep (show Below w34.heap.size w34 w35 by rw [hw35]; (repeat (first | exact Below.refl _ _ | assumption | refine Below.drew ?_ | refine bdrewN ?_ _ | refine Below.alloc ?_ (by first | exact Nat.le_refl _ | (simp; done) | omega | (simp; omega)) _ | refine Below.setCell ?_ (by first | exact Nat.le_refl _ | (simp; done) | omega | (simp; omega)) _))) (by omega)
      have tH35 := tH34.keep (show Below w34.heap.size w34 w35 by rw [hw35]; (repeat (first | exact Below.refl _ _ | assumption | refine Below.drew ?_ | refine bdrewN ?_ _ | refine Below.alloc ?_ (by first | exact Nat.le_refl _ | (simp; done) | omega | (simp; omega)) _ | refine Below.setCell ?_ (by first | exact Nat.le_refl _ | (simp; done) | omega | (simp; omega)) _))) (by omega)
      clear hw35
      clear cBA34 cBB34 cW34 cXA34 cXB34 cG34 cH34 tA34 tB34 tW34 tG34 tH34
      refine (eqLin_any _ _ _ _ _ _ _ _ _ _ _ tH35 tW35 (by omega) (by omega)).mono ?_; rw [dec_self]; rintro e w36 ⟨rfl, f36⟩
      have b36 := b35.trans (f36.mono (by omega))
      have z36 := f36.size
      have cBA36 := cell_keep f36 cBA35
      have cBB36 := cell_keep f36 cBB35
      have cW36 := cell_keep f36 cW35
      have cXA36 := cell_keep f36 cXA35
      have cXB36 := cell_keep f36 cXB35
      have cG36 := cell_keep f36 cG35
      have cH36 := cell_keep f36 cH35
      have tA36 := tA35.keep f36 (by omega)
      have tB36 := tB35.keep f36 (by omega)
      have tW36 := tW35.keep f36 (by omega)
      have tG36 := tG35.keep f36 (by omega)
      have tH36 := tH35.keep f36 (by omega)
      clear cBA35 cBB35 cW35 cXA35 cXB35 cG35 cH35 tA35 tB35 tW35 tG35 tH35
      go_wp2_with fail
      refine name_call fun w37 hw37 => ?_
      have b37 : Below w.heap.size w w37 := by rw [hw37]; (repeat (first | exact Below.refl _ _ | assumption | refine Below.drew ?_ | refine bdrewN ?_ _ | refine Below.alloc ?_ (by first | exact Nat.le_refl _ | (simp; done) | omega | (simp; omega)) _ | refine Below.setCell ?_ (by first | exact Nat.le_refl _ | (simp; done) | omega | (simp; omega)) _))
      have z37 : w36.heap.size + 0 ≤ w37.heap.size := by rw [hw37]; simp
      have cBA37 : w37.cell? ⟨w.heap.size, 0, none⟩ = some (.slice aA tsA.length kA) := by rw [hw37]; first | exact cBA36 | exact cBA36
      have cBB37 : w37.cell? ⟨w.heap.size + 1, 0, none⟩ = some (.slice aB tsB.length kB) := by rw [hw37]; first | exact cBB36 | exact cBB36
      have cW37 : w37.cell? ⟨g6, 0, none⟩ = some (.slice aW (lcomb 1 tsA tsB).length kW) := by rw [hw37]; first | exact cW36 | exact cW36
      have cXA37 : w37.cell? ⟨w8.heap.size, 0, none⟩ = some (.slice axA (tsA).length kxA) := by rw [hw37]; first | exact cXA36 | exact cXA36
      have cXB37 : w37.cell? ⟨w10.heap.size, 0, none⟩ = some (.slice axB (tsB).length kxB) := by rw [hw37]; first | exact cXB36 | exact cXB36
      have cG37 : w37.cell? ⟨w12.heap.size, 0, none⟩ = some (.slice aG (lcomb 1 tsA tsB).length kG) := by rw [hw37]; first | exact cG36 | exact cG36
      have cH37 : w37.cell? ⟨g34, 0, none⟩ = some (.slice aH (lcomb 1 tsA tsB).length kH) := by rw [hw37]; first | exact cH36 | exact cH36
      have tA37 := tA36.keep (show Below w36.heap.size w36 w37 by rw [hw37]; (repeat (first | exact Below.refl _ _ | assumption | refine Below.drew ?_ | refine bdrewN ?_ _ | refine Below.alloc ?_ (by first | exact Nat.le_refl _ | (simp; done) | omega | (simp; omega)) _ | refine Below.setCell ?_ (by first | exact Nat.le_refl _ | (simp; done) | omega | (simp; omega)) _))) (by omega)
      have tB37 := tB36.keep (show Below w36.heap.size w36 w37 by rw [hw37]; (repeat (first | exact Below.refl _ _ | assumption | refine Below.drew ?_ | refine bdrewN ?_ _ | refine Below.alloc ?_ (by first | exact Nat.le_refl _ | (simp; done) | omega | (simp; omega)) _ | refine Below.setCell ?_ (by first | exact Nat.le_refl _ | (simp; done) | omega | (simp; omega)) _))) (by omega)
      have tW37 := tW36.keep (show Below w36.heap.size w36 w37 by rw [hw37]; (repeat (first | exact Below.refl _ _ | assumption | refine Below.drew ?_ | refine bdrewN ?_ _ | refine Below.alloc ?_ (by first | exact Nat.le_refl _ | (simp; done) | omega | (simp; omega)) _ | refine Below.setCell ?_ (by first | exact Nat.le_refl _ | (simp; done) | omega | (simp; omega)) _))) (by omega)
      have tG37 := tG36.keep (show Below w36.heap.size w36 w37 by rw [hw37]; (repeat (first | exact Below.refl _ _ | assumption | refine Below.drew ?_ | refine bdrewN ?_ _ | refine Below.alloc ?_ (by first | exact Nat.le_refl _ | (simp; done) | omega | (simp; omega)) _ | refine Below.setCell ?_ (by first | exact Nat.le_refl _ | (simp; done) | omega | (simp; omega)) _))) (by omega)
      have tH37 := tH36.keep (show Below w36.heap.size w36 w37 by rw [hw37]; (repeat (first | exact Below.refl _ _ | assumption | refine Below.drew ?_ | refine bdrewN ?_ _ | refine Below.alloc ?_ (by first | exact Nat.le_refl _ | (simp; done) | omega | (simp; omega)) _ | refine Below.setCell ?_ (by first | exact Nat.le_refl _ | (simp; done) | omega | (simp; omega)) _))) (by omega)
      clear hw37
      clear cBA36 cBB36 cW36 cXA36 cXB36 cG36 cH36 tA36 tB36 tW36 tG36 tH36
      refine (heldLin_any _ _ _ _ _ 1 _ tG37 (by omega) (by omega) (by omega)).mono ?_; rintro e w38 ⟨rfl, f38⟩
      have b38 := b37.trans (f38.mono (by omega))
      have z38 := f38.size
      have cBA38 := cell_keep f38 cBA37
      have cBB38 := cell_keep f38 cBB37
      have cW38 := cell_keep f38 cW37
      have cXA38 := cell_keep f38 cXA37
      have cXB38 := cell_keep f38 cXB37
      have cG38 := cell_keep f38 cG37
      have cH38 := cell_keep f38 cH37
      have tA38 := tA37.keep f38 (by omega)
      have tB38 := tB37.keep f38 (by omega)
      have tW38 := tW37.keep f38 (by omega)
      have tG38 := tG37.keep f38 (by omega)
      have tH38 := tH37.keep f38 (by omega)
      clear cBA37 cBB37 cW37 cXA37 cXB37 cG37 cH37 tA37 tB37 tW37 tG37 tH37
      go_wp2_with fail
      go_ret
      exact ⟨rfl, b38⟩

set_option maxRecDepth 100000 in
set_option maxHeartbeats 6400000 in
theorem law_FnExactLinSub (vA : Value) (tsA : List T) (vB : Value) (tsB : List T) (w : World) (hA : Terms false 0 w.heap.size w vA tsA) (hB : Terms false 0 w.heap.size w vB tsB) :
    Calls Try.prog 10 #[.agg #[vA], .agg #[vB]] w fun e w' => e = .returned (.bool true) ∧ Below w.heap.size w w' := by
  obtain ⟨aA, kA, rfl, laA, baA⟩ := hA.shape
  obtain ⟨aB, kB, rfl, laB, baB⟩ := hB.shape
  have hlenF : (lcomb 2147483646 tsA tsB).length ≤ 4194304 := Nat.le_trans (lcomb_len 2147483646 tsA tsB) (by omega)
  by_cases hlA : tsA.length ≤ 1048576
  case' neg =>
    have SA := szLin_any false 0 w.heap.size (.slice aA tsA.length kA) tsA (((1048576 : Nat)) : Int)
    rw [if_pos (by omega)] at SA
    have SZA := Lib.hid SA; clear SA
    go_enter Try.func10, Try.ntmps10
    go_wp2_with fail
    refine name_call fun w1 hw1 => ?_
    have b1 : Below w.heap.size w w1 := by rw [hw1]; (repeat (first | exact Below.refl _ _ | assumption | refine Below.drew ?_ | refine bdrewN ?_ _ | refine Below.alloc ?_ (by first | exact Nat.le_refl _ | (simp; done) | omega | (simp; omega)) _ | refine Below.setCell ?_ (by first | exact Nat.le_refl _ | (simp; done) | omega | (simp; omega)) _))
    have z1 : w.heap.size + 2 ≤ w1.heap.size := by rw [hw1]; simp
    have cBA1 : w1.cell? ⟨w.heap.size, 0, none⟩ = some (.slice aA tsA.length kA) := by rw [hw1]; simp
    have cBB1 : w1.cell? ⟨w.heap.size + 1, 0, none⟩ = some (.slice aB tsB.length kB) := by rw [hw1]; simp
    have tA1 := hA.keep b1 (Nat.le_refl _)
    have tB1 := hB.keep b1 (Nat.le_refl _)
    clear hw1
    refine (SZA.out _ tA1 (by omega) (by omega) (by omega)).mono ?_; rintro e w2 ⟨rfl, f2⟩
    have b2 := b1.trans (f2.mono (by omega))
    have z2 := f2.size
    have cBA2 := cell_keep f2 cBA1
    have cBB2 := cell_keep f2 cBB1
    have tA2 := tA1.keep f2 (by omega)
    have tB2 := tB1.keep f2 (by omega)
    clear cBA1 cBB1 tA1 tB1
    go_wp2_with fail
    go_ret
    exact ⟨rfl, by (repeat (first | exact Below.refl _ _ | assumption | refine Below.drew ?_ | refine bdrewN ?_ _ | refine Below.alloc ?_ (by first | exact Nat.le_refl _ | (simp; done) | omega | (simp; omega)) _ | refine Below.setCell ?_ (by first | exact Nat.le_refl _ | (simp; done) | omega | (simp; omega)) _))⟩
  by_cases hlB : tsB.length ≤ 1048576 - tsA.length
  case' neg =>
    have SA := szLin_any false 0 w.heap.size (.slice aA tsA.length kA) tsA (((1048576 : Nat)) : Int)
    rw [if_neg (by omega)] at SA
    rw [show (((1048576 : Nat)) : Int) - tsA.length = (((1048576 - tsA.length : Nat)) : Int) from by omega] at SA
    have SZA := Lib.hid SA; clear SA
    have SB := szLin_any false 0 w.heap.size (.slice aB tsB.length kB) tsB (((1048576 - tsA.length : Nat)) : Int)
    rw [if_pos (by omega)] at SB
    have SZB := Lib.hid SB; clear SB
    go_enter Try.func10, Try.ntmps10
    go_wp2_with fail
    refine name_call fun w1 hw1 => ?_
    have b1 : Below w.heap.size w w1 := by rw [hw1]; (repeat (first | exact Below.refl _ _ | assumption | refine Below.drew ?_ | refine bdrewN ?_ _ | refine Below.alloc ?_ (by first | exact Nat.le_refl _ | (simp; done) | omega | (simp; omega)) _ | refine Below.setCell ?_ (by first | exact Nat.le_refl _ | (simp; done) | omega | (simp; omega)) _))
    have z1 : w.heap.size + 2 ≤ w1.heap.size := by rw [hw1]; simp
    have cBA1 : w1.cell? ⟨w.heap.size, 0, none⟩ = some (.slice aA tsA.length kA) := by rw [hw1]; simp
    have cBB1 : w1.cell? ⟨w.heap.size + 1, 0, none⟩ = some (.slice aB tsB.length kB) := by rw [hw1]; simp
    have tA1 := hA.keep b1 (Nat.le_refl _)
    have tB1 := hB.keep b1 (Nat.le_refl _)
    clear hw1
    refine (SZA.out _ tA1 (by omega) (by omega) (by omega)).mono ?_; rintro e w2 ⟨rfl, f2⟩
    have b2 := b1.trans (f2.mono (by omega))
    have z2 := f2.size
    have cBA2 := cell_keep f2 cBA1
    have cBB2 := cell_keep f2 cBB1
    have tA2 := tA1.keep f2 (by omega)
    have tB2 := tB1.keep f2 (by omega)
    clear cBA1 cBB1 tA1 tB1
    go_wp2_with fail
    refine name_call fun w3 hw3 => ?_
    have b3 : Below w.heap.size w w3 := by rw [hw3]; (repeat (first | exact Below.refl _ _ | assumption | refine Below.drew ?_ | refine bdrewN ?_ _ | refine Below.alloc ?_ (by first | exact Nat.le_refl _ | (simp; done) | omega | (simp; omega)) _ | refine Below.setCell ?_ (by first | exact Nat.le_refl _ | (simp; done) | omega | (simp; omega)) _))
    have z3 : w2.heap.size + 0 ≤ w3.heap.size := by rw [hw3]; simp
    have cBA3 : w3.cell? ⟨w.heap.size, 0, none⟩ = some (.slice aA tsA.length kA) := by rw [hw3]; first | exact cBA2 | exact cBA2
    have cBB3 : w3.cell? ⟨w.heap.size + 1, 0, none⟩ = some (.slice aB tsB.length kB) := by rw [hw3]; first | exact cBB2 | exact cBB2
    have tA3 := tA2.keep (show Below w2.heap.size w2 w3 by rw [hw3]; (repeat (first | exact Below.refl _ _ | assumption | refine Below.drew ?_ | refine bdrewN ?_ _ | refine Below.alloc ?_ (by first | exact Nat.le_refl _ | (simp; done) | omega | (simp; omega)) _ | refine Below.setCell ?_ (by first | exact Nat.le_refl _ | (simp; done) | omega | (simp; omega)) _))) (by omega)
    have tB3 := tB2.keep (show Below w2.heap.size w2 w3 by rw [hw3]; (repeat (first | exact Below.refl _ _ | assumption | refine Below.drew ?_ | refine bdrewN ?_ _ | refine Below.alloc ?_ (by first | exact Nat.le_refl _ | (simp; done) | omega | (simp; omega)) _ | refine Below.setCell ?_ (by first | exact Nat.le_refl _ | (simp; done) | omega | (simp; omega)) _))) (by omega)
    clear hw3
    clear cBA2 cBB2 tA2 tB2
    refine (SZB.out _ tB3 (by omega) (by omega) (by omega)).mono ?_; rintro e w4 ⟨rfl, f4⟩
    have b4 := b3.trans (f4.mono (by omega))
    have z4 := f4.size
    have cBA4 := cell_keep f4 cBA3
    have cBB4 := cell_keep f4 cBB3
    have tA4 := tA3.keep f4 (by omega)
    have tB4 := tB3.keep f4 (by omega)
    clear cBA3 cBB3 tA3 tB3
    go_wp2_with fail
    go_ret
    exact ⟨rfl, by (repeat (first | exact Below.refl _ _ | assumption | refine Below.drew ?_ | refine bdrewN ?_ _ | refine Below.alloc ?_ (by first | exact Nat.le_refl _ | (simp; done) | omega | (simp; omega)) _ | refine Below.setCell ?_ (by first | exact Nat.le_refl _ | (simp; done) | omega | (simp; omega)) _))⟩
  have SA := szLin_any false 0 w.heap.size (.slice aA tsA.length kA) tsA (((1048576 : Nat)) : Int)
  rw [if_neg (by omega)] at SA
  rw [show (((1048576 : Nat)) : Int) - tsA.length = (((1048576 - tsA.length : Nat)) : Int) from by omega] at SA
  have SZA := Lib.hid SA; clear SA
  have SB := szLin_any false 0 w.heap.size (.slice aB tsB.length kB) tsB (((1048576 - tsA.length : Nat)) : Int)
  rw [if_neg (by omega)] at SB
  rw [show (((1048576 - tsA.length : Nat)) : Int) - tsB.length = (((1048576 - tsA.length - tsB.length : Nat)) : Int) from by omega] at SB
  have SZB := Lib.hid SB; clear SB
  go_enter Try.func10, Try.ntmps10
  go_wp2_with fail
  refine name_call fun w1 hw1 => ?_
  have b1 : Below w.heap.size w w1 := by rw [hw1]; (repeat (first | exact Below.refl _ _ | assumption | refine Below.drew ?_ | refine bdrewN ?_ _ | refine Below.alloc ?_ (by first | exact Nat.le_refl _ | (simp; done) | omega | (simp; omega)) _ | refine Below.setCell ?_ (by first | exact Nat.le_refl _ | (simp; done) | omega | (simp; omega)) _))
  have z1 : w.heap.size + 2 ≤ w1.heap.size := by rw [hw1]; simp
  have cBA1 : w1.cell? ⟨w.heap.size, 0, none⟩ = some (.slice aA tsA.length kA) := by rw [hw1]; simp
  have cBB1 : w1.cell? ⟨w.heap.size + 1, 0, none⟩ = some (.slice aB tsB.length kB) := by rw [hw1]; simp
  have tA1 := hA.keep b1 (Nat.le_refl _)
  have tB1 := hB.keep b1 (Nat.le_refl _)
  clear hw1
  refine (SZA.out _ tA1 (by omega) (by omega) (by omega)).mono ?_; rintro e w2 ⟨rfl, f2⟩
  have b2 := b1.trans (f2.mono (by omega))
  have z2 := f2.size
  have cBA2 := cell_keep f2 cBA1
  have cBB2 := cell_keep f2 cBB1
  have tA2 := tA1.keep f2 (by omega)
  have tB2 := tB1.keep f2 (by omega)
  clear cBA1 cBB1 tA1 tB1
  go_wp2_with fail
  refine name_call fun w3 hw3 => ?_
  have b3 : Below w.heap.size w w3 := by rw [hw3]; (repeat (first | exact Below.refl _ _ | assumption | refine Below.drew ?_ | refine bdrewN ?_ _ | refine Below.alloc ?_ (by first | exact Nat.le_refl _ | (simp; done) | omega | (simp; omega)) _ | refine Below.setCell ?_ (by first | exact Nat.le_refl _ | (simp; done) | omega | (simp; omega)) _))
  have z3 : w2.heap.size + 0 ≤ w3.heap.size := by rw [hw3]; simp
  have cBA3 : w3.cell? ⟨w.heap.size, 0, none⟩ = some (.slice aA tsA.length kA) := by rw [hw3]; first | exact cBA2 | exact cBA2
  have cBB3 : w3.cell? ⟨w.heap.size + 1, 0, none⟩ = some (.slice aB tsB.length kB) := by rw [hw3]; first | exact cBB2 | exact cBB2
  have tA3 := tA2.keep (show Below w2.heap.size w2 w3 by rw [hw3]; (repeat (first | exact Below.refl _ _ | assumption | refine Below.drew ?_ | refine bdrewN ?_ _ | refine Below.alloc ?_ (by first | exact Nat.le_refl _ | (simp; done) | omega | (simp; omega)) _ | refine Below.setCell ?_ (by first | exact Nat.le_refl _ | (simp; done) | omega | (simp; omega)) _))) (by omega)
  have tB3 := tB2.keep (show Below w2.heap.size w2 w3 by rw [hw3]; (repeat (first | exact Below.refl _ _ | assumption | refine Below.drew ?_ | refine bdrewN ?_ _ | refine Below.alloc ?_ (by first | exact Nat.le_refl _ | (simp; done) | omega | (simp; omega)) _ | refine Below.setCell ?_ (by first | exact Nat.le_refl _ | (simp; done) | omega | (simp; omega)) _))) (by omega)
  clear hw3
  clear cBA2 cBB2 tA2 tB2
  refine (SZB.out _ tB3 (by omega) (by omega) (by omega)).mono ?_; rintro e w4 ⟨rfl, f4⟩
  have b4 := b3.trans (f4.mono (by omega))
  have z4 := f4.size
  have cBA4 := cell_keep f4 cBA3
  have cBB4 := cell_keep f4 cBB3
  have tA4 := tA3.keep f4 (by omega)
  have tB4 := tB3.keep f4 (by omega)
  clear cBA3 cBB3 tA3 tB3
  go_wp2_with fail
  refine name_wp fun w5 hw5 => ?_
  have b5 : Below w.heap.size w w5 := by rw [hw5]; (repeat (first | exact Below.refl _ _ | assumption | refine Below.drew ?_ | refine bdrewN ?_ _ | refine Below.alloc ?_ (by first | exact Nat.le_refl _ | (simp; done) | omega | (simp; omega)) _ | refine Below.setCell ?_ (by first | exact Nat.le_refl _ | (simp; done) | omega | (simp; omega)) _))
  have z5 : w4.heap.size + 0 ≤ w5.heap.size := by rw [hw5]; simp
  have cBA5 : w5.cell? ⟨w.heap.size, 0, none⟩ = some (.slice aA tsA.length kA) := by rw [hw5]; first | exact cBA4 | exact cBA4
  have cBB5 : w5.cell? ⟨w.heap.size + 1, 0, none⟩ = some (.slice aB tsB.length kB) := by rw [hw5]; first | exact cBB4 | exact cBB4
  have tA5 := tA4.keep (show Below w4.heap.size w4 w5 by rw [hw5]; (repeat (first | exact Below.refl _ _ | assumption | refine Below.drew ?_ | refine bdrewN ?_ _ | refine Below.alloc ?_ (by first | exact Nat.le_refl _ | (simp; done) | omega | (simp; omega)) _ | refine Below.setCell ?_ (by first | exact Nat.le_refl _ | (simp; done) | omega | (simp; omega)) _))) (by omega)
  have tB5 := tB4.keep (show Below w4.heap.size w4 w5 by rw [hw5]; (repeat (first | exact Below.refl _ _ | assumption | refine Below.drew ?_ | refine bdrewN ?_ _ | refine Below.alloc ?_ (by first | exact Nat.le_refl _ | (simp; done) | omega | (simp; omega)) _ | refine Below.setCell ?_ (by first | exact Nat.le_refl _ | (simp; done) | omega | (simp; omega)) _))) (by omega)
  clear hw5
  clear cBA4 cBB4 tA4 tB4
  have d5 : Below w5.heap.size w5 w5.drew := (Below.refl _ _).drew
  have zd5 : w5.drew.heap.size ≤ w5.heap.size := Nat.le_refl _
  have ze5 : w5.heap.size ≤ w5.drew.heap.size := Nat.le_refl _
  have eBA : w5.drew.cell? ⟨w.heap.size, 0, none⟩ = some (.slice aA tsA.length kA) := cell_keep d5 cBA5
  have eBB : w5.drew.cell? ⟨w.heap.size + 1, 0, none⟩ = some (.slice aB tsB.length kB) := cell_keep d5 cBB5
  have eA := tA5.keep d5 (by omega)
  have eB := tB5.keep d5 (by omega)
  go_cut [6, 7] (fun s6 s7 wx => CutW w5 (lcomb 2147483646 tsA tsB) (lok tsA tsB) s6 s7 wx)
  case first =>
    go_region_held3 (fun w' => w'.cell? ⟨w.heap.size, 0, none⟩ = some (.slice aA tsA.length kA) ∧ w'.cell? ⟨w.heap.size + 1, 0, none⟩ = some (.slice aB tsB.length kB) ∧ Below w5.drew.heap.size w5.drew w') (first | exact ⟨eBA, eBB, Below.refl _ _⟩ | exact keep2 eBA eBB (by (repeat (first | exact Below.refl _ _ | assumption | refine Below.alloc ?_ (by first | exact Nat.le_refl _ | exact Below.size (by assumption) | (simp; done) | omega | (simp; omega)) _ | refine Below.setCell ?_ (by first | exact Nat.le_refl _ | exact Below.size (by assumption) | (simp; done) | omega | (simp; omega)) _))))
      (first
        | (go_at_call_of 38 (Value.agg #[Value.slice aA tsA.length kA]); refine (toLin_any _ _ _ _ _ _ (eA.keep (B := w5.drew.heap.size) (by (repeat (first | exact Below.refl _ _ | assumption | refine Below.alloc ?_ (by first | exact Nat.le_refl _ | exact Below.size (by assumption) | (simp; done) | omega | (simp; omega)) _ | refine Below.setCell ?_ (by first | exact Nat.le_refl _ | exact Below.size (by assumption) | (simp; done) | omega | (simp; omega)) _))) (by omega)) (Nat.le_trans (show w.heap.size ≤ w5.drew.heap.size by omega) (Below.size (B := w5.drew.heap.size) (by (repeat (first | exact Below.refl _ _ | assumption | refine Below.alloc ?_ (by first | exact Nat.le_refl _ | exact Below.size (by assumption) | (simp; done) | omega | (simp; omega)) _ | refine Below.setCell ?_ (by first | exact Nat.le_refl _ | exact Below.size (by assumption) | (simp; done) | omega | (simp; omega)) _))))) (by omega)).mono ?_; rintro e p0 ⟨q0, rfl, g0, r0⟩; obtain ⟨am0, km0, rfl, lm0, bm0⟩ := r0.shape; have G0 := chain_step g0 (show Below w5.drew.heap.size w5.drew _ by (repeat (first | exact Below.refl _ _ | assumption | refine Below.alloc ?_ (by first | exact Nat.le_refl _ | exact Below.size (by assumption) | (simp; done) | omega | (simp; omega)) _ | refine Below.setCell ?_ (by first | exact Nat.le_refl _ | exact Below.size (by assumption) | (simp; done) | omega | (simp; omega)) _))); have ⟨hc0, hf0⟩ := bcell g0; have z0q := g0.size; (try simp at z0q); (try have y0x : w5.heap.size < p0.heap.size := by omega))
        | (go_at_call_of 38 (Value.agg #[Value.slice aB tsB.length kB]); refine (toLin_any _ _ _ _ _ _ (eB.keep (B := w5.drew.heap.size) (by (repeat (first | exact Below.refl _ _ | assumption | refine Below.alloc ?_ (by first | exact Nat.le_refl _ | exact Below.size (by assumption) | (simp; done) | omega | (simp; omega)) _ | refine Below.setCell ?_ (by first | exact Nat.le_refl _ | exact Below.size (by assumption) | (simp; done) | omega | (simp; omega)) _))) (by omega)) (Nat.le_trans (show w.heap.size ≤ w5.drew.heap.size by omega) (Below.size (B := w5.drew.heap.size) (by (repeat (first | exact Below.refl _ _ | assumption | refine Below.alloc ?_ (by first | exact Nat.le_refl _ | exact Below.size (by assumption) | (simp; done) | omega | (simp; omega)) _ | refine Below.setCell ?_ (by first | exact Nat.le_refl _ | exact Below.size (by assumption) | (simp; done) | omega | (simp; omega)) _))))) (by omega)).mono ?_; rintro e p1 ⟨q1, rfl, g1, r1⟩; obtain ⟨am1, km1, rfl, lm1, bm1⟩ := r1.shape; have G1 := chain_step g1 (show Below w5.drew.heap.size w5.drew _ by (repeat (first | exact Below.refl _ _ | assumption | refine Below.alloc ?_ (by first | exact Nat.le_refl _ | exact Below.size (by assumption) | (simp; done) | omega | (simp; omega)) _ | refine Below.setCell ?_ (by first | exact Nat.le_refl _ | exact Below.size (by assumption) | (simp; done) | omega | (simp; omega)) _))); have ⟨hc1, hf1⟩ := bcell g1; have z1q := g1.size; (try simp at z1q); (try have y1x : w5.heap.size < p1.heap.size := by omega); (try have y1x0 : p0.heap.size < p1.heap.size := by omega); have G01 := chain_step g1 (show Below p0.heap.size p0 _ by (repeat (first | exact Below.refl _ _ | assumption | refine Below.alloc ?_ (by first | exact Nat.le_refl _ | exact Below.size (by assumption) | (simp; done) | omega | (simp; omega)) _ | refine Below.setCell ?_ (by first | exact Nat.le_refl _ | exact Below.size (by assumption) | (simp; done) | omega | (simp; omega)) _))))
        | (go_at_call 46; refine (linSub_spec _ _ _ _ _ _ _ _ _ _ _ (r0.keep (B := p0.heap.size) (by (repeat (first | exact Below.refl _ _ | assumption | refine Below.alloc ?_ (by first | exact Nat.le_refl _ | exact Below.size (by assumption) | (simp; done) | omega | (simp; omega)) _ | refine Below.setCell ?_ (by first | exact Nat.le_refl _ | exact Below.size (by assumption) | (simp; done) | omega | (simp; omega)) _))) (Nat.le_refl _)) (Below.size (B := p0.heap.size) (by (repeat (first | exact Below.refl _ _ | assumption | refine Below.alloc ?_ (by first | exact Nat.le_refl _ | exact Below.size (by assumption) | (simp; done) | omega | (simp; omega)) _ | refine Below.setCell ?_ (by first | exact Nat.le_refl _ | exact Below.size (by assumption) | (simp; done) | omega | (simp; omega)) _)))) (r1.keep (B := p1.heap.size) (by (repeat (first | exact Below.refl _ _ | assumption | refine Below.alloc ?_ (by first | exact Nat.le_refl _ | exact Below.size (by assumption) | (simp; done) | omega | (simp; omega)) _ | refine Below.setCell ?_ (by first | exact Nat.le_refl _ | exact Below.size (by assumption) | (simp; done) | omega | (simp; omega)) _))) (Nat.le_refl _)) (Below.size (B := p1.heap.size) (by (repeat (first | exact Below.refl _ _ | assumption | refine Below.alloc ?_ (by first | exact Nat.le_refl _ | exact Below.size (by assumption) | (simp; done) | omega | (simp; omega)) _ | refine Below.setCell ?_ (by first | exact Nat.le_refl _ | exact Below.size (by assumption) | (simp; done) | omega | (simp; omega)) _))))).mono ?_; rintro e p2 ⟨q2, rfl, g2, r2⟩; obtain ⟨am2, km2, rfl, lm2, bm2⟩ := r2.shape; have G2 := chain_step g2 (show Below w5.drew.heap.size w5.drew _ by (repeat (first | exact Below.refl _ _ | assumption | refine Below.alloc ?_ (by first | exact Nat.le_refl _ | exact Below.size (by assumption) | (simp; done) | omega | (simp; omega)) _ | refine Below.setCell ?_ (by first | exact Nat.le_refl _ | exact Below.size (by assumption) | (simp; done) | omega | (simp; omega)) _))); have ⟨hc2, hf2⟩ := bcell g2))
    all_goals go_wp2_with fail
    all_goals go_meet
    all_goals (first | exact cutW_alloc d5 G2 r2 (by first | omega | (simp; done) | (simp; omega)) | exact cutW_set d5 G2 r2 (by first | omega | (simp; done) | (simp; omega)) (by first | omega | (simp; done) | (simp; omega)) (by simp (disch := first | omega | (simp; done) | (simp; omega)) [hc2, hc0, hc1]))
  case rest =>
    clear eBA eBB eA eB
    obtain ⟨g6, aW, kW, rfl, rfl, hg6, cW6, b06, tW6⟩ := hcut
    obtain ⟨w6, hw6⟩ : ∃ x, x = wc := ⟨_, rfl⟩
    subst hw6
    have b6 : Below w.heap.size w w6 := b5.trans (b06.mono (by omega))
    have z6 : w5.heap.size ≤ w6.heap.size := b06.size
    have lg6 : g6 < w6.heap.size := World.block_lt_of_cell? w6 _ cW6
    have cBA6 := cell_keep b06 cBA5
    have cBB6 := cell_keep b06 cBB5
    have tA6 := tA5.keep b06 (by omega)
    have tB6 := tB5.keep b06 (by omega)
    clear cBA5 cBB5 tA5 tB5
    obtain ⟨laW, baW⟩ : (lcomb 2147483646 tsA tsB).length ≤ kW ∧ kW ≤ 9223372036854775807 := by obtain ⟨_, _, e, h1, h2⟩ := tW6.shape; cases e; exact ⟨h1, h2⟩
    go_wp2_with fail
    refine name_call fun w7 hw7 => ?_
    have b7 : Below w.heap.size w w7 := by rw [hw7]; (repeat (first | exact Below.refl _ _ | assumption | refine Below.drew ?_ | refine bdrewN ?_ _ | refine Below.alloc ?_ (by first | exact Nat.le_refl _ | (simp; done) | omega | (simp; omega)) _ | refine Below.setCell ?_ (by first | exact Nat.le_refl _ | (simp; done) | omega | (simp; omega)) _))
    have z7 : w6.heap.size + 0 ≤ w7.heap.size := by rw [hw7]; simp
    have cBA7 : w7.cell? ⟨w.heap.size, 0, none⟩ = some (.slice aA tsA.length kA) := by rw [hw7]; first | exact cBA6 | exact cBA6
    have cBB7 : w7.cell? ⟨w.heap.size + 1, 0, none⟩ = some (.slice aB tsB.length kB) := by rw [hw7]; first | exact cBB6 | exact cBB6
    have cW7 : w7.cell? ⟨g6, 0, none⟩ = some (.slice aW (lcomb 2147483646 tsA tsB).length kW) := by rw [hw7]; first | exact cW6 | exact cW6
    have tA7 := tA6.keep (show Below w6.heap.size w6 w7 by rw [hw7]; (repeat (first | exact Below.refl _ _ | assumption | refine Below.drew ?_ | refine bdrewN ?_ _ | refine Below.alloc ?_ (by first | exact Nat.le_refl _ | (simp; done) | omega | (simp; omega)) _ | refine Below.setCell ?_ (by first | exact Nat.le_refl _ | (simp; done) | omega | (simp; omega)) _))) (by omega)
    have tB7 := tB6.keep (show Below w6.heap.size w6 w7 by rw [hw7]; (repeat (first | exact Below.refl _ _ | assumption | refine Below.drew ?_ | refine bdrewN ?_ _ | refine Below.alloc ?_ (by first | exact Nat.le_refl _ | (simp; done) | omega | (simp; omega)) _ | refine Below.setCell ?_ (by first | exact Nat.le_refl _ | (simp; done) | omega | (simp; omega)) _))) (by omega)
    have tW7 := tW6.keep (show Below w6.heap.size w6 w7 by rw [hw7]; (repeat (first | exact Below.refl _ _ | assumption | refine Below.drew ?_ | refine bdrewN ?_ _ | refine Below.alloc ?_ (by first | exact Nat.le_refl _ | (simp; done) | omega | (simp; omega)) _ | refine Below.setCell ?_ (by first | exact Nat.le_refl _ | (simp; done) | omega | (simp; omega)) _))) (by omega)
    clear hw7
    clear cBA6 cBB6 cW6 tA6 tB6 tW6
    refine (toLin_any _ _ _ _ _ _ tA7 (by omega) (by omega)).mono ?_; rintro e w8 ⟨u8, rfl, f8, tq8⟩
    have b8 := b7.trans (f8.mono (by omega))
    have z8 := f8.size
    have cBA8 := cell_keep f8 cBA7
    have cBB8 := cell_keep f8 cBB7
    have cW8 := cell_keep f8 cW7
    have tA8 := tA7.keep f8 (by omega)
    have tB8 := tB7.keep f8 (by omega)
    have tW8 := tW7.keep f8 (by omega)
    clear cBA7 cBB7 cW7 tA7 tB7 tW7
    have txA8 := tq8; clear tq8
    obtain ⟨axA, kxA, rfl, laxA, baxA⟩ := txA8.shape
    have lBA8 : w.heap.size < w8.heap.size := by omega
    have lBB8 : w.heap.size + 1 < w8.heap.size := by omega
    have lW8 : g6 < w8.heap.size := by omega
    go_wp2_with fail
    refine name_call fun w9 hw9 => ?_
    clear lBA8 lBB8 lW8
    have b9 : Below w.heap.size w w9 := by rw [hw9]; (repeat (first | exact Below.refl _ _ | assumption | refine Below.drew ?_ | refine bdrewN ?_ _ | refine Below.alloc ?_ (by first | exact Nat.le_refl _ | (simp; done) | omega | (simp; omega)) _ | refine Below.setCell ?_ (by first | exact Nat.le_refl _ | (simp; done) | omega | (simp; omega)) _))
    have z9 : w8.heap.size + 1 ≤ w9.heap.size := by rw [hw9]; simp
    have cBA9 : w9.cell? ⟨w.heap.size, 0, none⟩ = some (.slice aA tsA.length kA) := by rw [hw9]; first | exact cBA8 | exact alloc_keep (cBA8)
    have cBB9 : w9.cell? ⟨w.heap.size + 1, 0, none⟩ = some (.slice aB tsB.length kB) := by rw [hw9]; first | exact cBB8 | exact alloc_keep (cBB8)
    have cW9 : w9.cell? ⟨g6, 0, none⟩ = some (.slice aW (lcomb 2147483646 tsA tsB).length kW) := by rw [hw9]; first | exact cW8 | exact alloc_keep (cW8)
    have cXA9 : w9.cell? ⟨w8.heap.size, 0, none⟩ = some (.slice axA (tsA).length kxA) := by rw [hw9]; simp
    have tA9 := tA8.keep (show Below w8.heap.size w8 w9 by rw [hw9]; (repeat (first | exact Below.refl _ _ | assumption | refine Below.drew ?_ | refine bdrewN ?_ _ | refine Below.alloc ?_ (by first | exact Nat.le_refl _ | (simp; done) | omega | (simp; omega)) _ | refine Below.setCell ?_ (by first | exact Nat.le_refl _ | (simp; done) | omega | (simp; omega)) _))) (by omega)
    have tB9 := tB8.keep (show Below w8.heap.size w8 w9 by rw [hw9]; (repeat (first | exact Below.refl _ _ | assumption | refine Below.drew ?_ | refine bdrewN ?_ _ | refine Below.alloc ?_ (by first | exact Nat.le_refl _ | (simp; done) | omega | (simp; omega)) _ | refine Below.setCell ?_ (by first | exact Nat.le_refl _ | (simp; done) | omega | (simp; omega)) _))) (by omega)
    have tW9 := tW8.keep (show Below w8.heap.size w8 w9 by rw [hw9]; (repeat (first | exact Below.refl _ _ | assumption | refine Below.drew ?_ | refine bdrewN ?_ _ | refine Below.alloc ?_ (by first | exact Nat.le_refl _ | (simp; done) | omega | (simp; omega)) _ | refine Below.setCell ?_ (by first | exact Nat.le_refl _ | (simp; done) | omega | (simp; omega)) _))) (by omega)
    have txA9 := txA8.keep (show Below w8.heap.size w8 w9 by rw [hw9]; (repeat (first | exact Below.refl _ _ | assumption | refine Below.drew ?_ | refine bdrewN ?_ _ | refine Below.alloc ?_ (by first | exact Nat.le_refl _ | (simp; done) | omega | (simp; omega)) _ | refine Below.setCell ?_ (by first | exact Nat.le_refl _ | (simp; done) | omega | (simp; omega)) _))) (by omega)
    clear hw9
    clear cBA8 cBB8 cW8 tA8 tB8 tW8 txA8
    refine (toLin_any _ _ _ _ _ _ tB9 (by omega) (by omega)).mono ?_; rintro e w10 ⟨u10, rfl, f10, tq10⟩
    have b10 := b9.trans (f10.mono (by omega))
    have z10 := f10.size
    have cBA10 := cell_keep f10 cBA9
    have cBB10 := cell_keep f10 cBB9
    have cW10 := cell_keep f10 cW9
    have cXA10 := cell_keep f10 cXA9
    have tA10 := tA9.keep f10 (by omega)
    have tB10 := tB9.keep f10 (by omega)
    have tW10 := tW9.keep f10 (by omega)
    have txA10 := txA9.keep f10 (by omega)
    clear cBA9 cBB9 cW9 cXA9 tA9 tB9 tW9 txA9
    have txB10 := tq10; clear tq10
    obtain ⟨axB, kxB, rfl, laxB, baxB⟩ := txB10.shape
    have lBA10 : w.heap.size < w10.heap.size := by omega
    have lBB10 : w.heap.size + 1 < w10.heap.size := by omega
    have lW10 : g6 < w10.heap.size := by omega
    have lXA10 : w8.heap.size < w10.heap.size := by omega
    go_wp2_with fail
    refine name_call fun w11 hw11 => ?_
    clear lBA10 lBB10 lW10 lXA10
    have b11 : Below w.heap.size w w11 := by rw [hw11]; (repeat (first | exact Below.refl _ _ | assumption | refine Below.drew ?_ | refine bdrewN ?_ _ | refine Below.alloc ?_ (by first | exact Nat.le_refl _ | (simp; done) | omega | (simp; omega)) _ | refine Below.setCell ?_ (by first | exact Nat.le_refl _ | (simp; done) | omega | (simp; omega)) _))
    have z11 : w10.heap.size + 1 ≤ w11.heap.size := by rw [hw11]; simp
    have cBA11 : w11.cell? ⟨w.heap.size, 0, none⟩ = some (.slice aA tsA.length kA) := by rw [hw11]; first | exact cBA10 | exact alloc_keep (cBA10)
    have cBB11 : w11.cell? ⟨w.heap.size + 1, 0, none⟩ = some (.slice aB tsB.length kB) := by rw [hw11]; first | exact cBB10 | exact alloc_keep (cBB10)
    have cW11 : w11.cell? ⟨g6, 0, none⟩ = some (.slice aW (lcomb 2147483646 tsA tsB).length kW) := by rw [hw11]; first | exact cW10 | exact alloc_keep (cW10)
    have cXA11 : w11.cell? ⟨w8.heap.size, 0, none⟩ = some (.slice axA (tsA).length kxA) := by rw [hw11]; first | exact cXA10 | exact alloc_keep (cXA10)
    have cXB11 : w11.cell? ⟨w10.heap.size, 0, none⟩ = some (.slice axB (tsB).length kxB) := by rw [hw11]; simp
    have tA11 := tA10.keep (show Below w10.heap.size w10 w11 by rw [hw11]; (repeat (first | exact Below.refl _ _ | assumption | refine Below.drew ?_ | refine bdrewN ?_ _ | refine Below.alloc ?_ (by first | exact Nat.le_refl _ | (simp; done) | omega | (simp; omega)) _ | refine Below.setCell ?_ (by first | exact Nat.le_refl _ | (simp; done) | omega | (simp; omega)) _))) (by omega)
    have tB11 := tB10.keep (show Below w10.heap.size w10 w11 by rw [hw11]; (repeat (first | exact Below.refl _ _ | assumption | refine Below.drew ?_ | refine bdrewN ?_ _ | refine Below.alloc ?_ (by first | exact Nat.le_refl _ | (simp; done) | omega | (simp; omega)) _ | refine Below.setCell ?_ (by first | exact Nat.le_refl _ | (simp; done) | omega | (simp; omega)) _))) (by omega)
    have tW11 := tW10.keep (show Below w10.heap.size w10 w11 by rw [hw11]; (repeat (first | exact Below.refl _ _ | assumption | refine Below.drew ?_ | refine bdrewN ?_ _ | refine Below.alloc ?_ (by first | exact Nat.le_refl _ | (simp; done) | omega | (simp; omega)) _ | refine Below.setCell ?_ (by first | exact Nat.le_refl _ | (simp; done) | omega | (simp; omega)) _))) (by omega)
    have txA11 := txA10.keep (show Below w10.heap.size w10 w11 by rw [hw11]; (repeat (first | exact Below.refl _ _ | assumption | refine Below.drew ?_ | refine bdrewN ?_ _ | refine Below.alloc ?_ (by first | exact Nat.le_refl _ | (simp; done) | omega | (simp; omega)) _ | refine Below.setCell ?_ (by first | exact Nat.le_refl _ | (simp; done) | omega | (simp; omega)) _))) (by omega)
    have txB11 := txB10.keep (show Below w10.heap.size w10 w11 by rw [hw11]; (repeat (first | exact Below.refl _ _ | assumption | refine Below.drew ?_ | refine bdrewN ?_ _ | refine Below.alloc ?_ (by first | exact Nat.le_refl _ | (simp; done) | omega | (simp; omega)) _ | refine Below.setCell ?_ (by first | exact Nat.le_refl _ | (simp; done) | omega | (simp; omega)) _))) (by omega)
    clear hw11
    clear cBA10 cBB10 cW10 cXA10 tA10 tB10 tW10 txA10 txB10
    refine (linSub_impl _ _ _ _ _ _ _ _ _ _ _ txA11 (by omega) txB11 (by omega) ).mono ?_; rintro e w12 ⟨u12, rfl, f12, tq12⟩
    have b12 := b11.trans (f12.mono (by omega))
    have z12 := f12.size
    have cBA12 := cell_keep f12 cBA11
    have cBB12 := cell_keep f12 cBB11
    have cW12 := cell_keep f12 cW11
    have cXA12 := cell_keep f12 cXA11
    have cXB12 := cell_keep f12 cXB11
    have tA12 := tA11.keep f12 (by omega)
    have tB12 := tB11.keep f12 (by omega)
    have tW12 := tW11.keep f12 (by omega)
    have txA12 := txA11.keep f12 (by omega)
    have txB12 := txB11.keep f12 (by omega)
    clear cBA11 cBB11 cW11 cXA11 cXB11 tA11 tB11 tW11 txA11 txB11
    have tG12 := tq12; clear tq12
    obtain ⟨aG, kG, rfl, laG, baG⟩ := tG12.shape
    have lBA12 : w.heap.size < w12.heap.size := by omega
    have lBB12 : w.heap.size + 1 < w12.heap.size := by omega
    have lW12 : g6 < w12.heap.size := by omega
    have lXA12 : w8.heap.size < w12.heap.size := by omega
    have lXB12 : w10.heap.size < w12.heap.size := by omega
    go_wp2_with fail
    refine name_call fun w13 hw13 => ?_
    clear lBA12 lBB12 lW12 lXA12 lXB12
    have b13 : Below w.heap.size w w13 := by rw [hw13]; (repeat (first | exact Below.refl _ _ | assumption | refine Below.drew ?_ | refine bdrewN ?_ _ | refine Below.alloc ?_ (by first | exact Nat.le_refl _ | (simp; done) | omega | (simp; omega)) _ | refine Below.setCell ?_ (by first | exact Nat.le_refl _ | (simp; done) | omega | (simp; omega)) _))
    have z13 : w12.heap.size + 1 ≤ w13.heap.size := by rw [hw13]; simp
    have cBA13 : w13.cell? ⟨w.heap.size, 0, none⟩ = some (.slice aA tsA.length kA) := by rw [hw13]; first | exact cBA12 | exact alloc_keep (cBA12)
    have cBB13 : w13.cell? ⟨w.heap.size + 1, 0, none⟩ = some (.slice aB tsB.length kB) := by rw [hw13]; first | exact cBB12 | exact alloc_keep (cBB12)
    have cW13 : w13.cell? ⟨g6, 0, none⟩ = some (.slice aW (lcomb 2147483646 tsA tsB).length kW) := by rw [hw13]; first | exact cW12 | exact alloc_keep (cW12)
    have cXA13 : w13.cell? ⟨w8.heap.size, 0, none⟩ = some (.slice axA (tsA).length kxA) := by rw [hw13]; first | exact cXA12 | exact alloc_keep (cXA12)
    have cXB13 : w13.cell? ⟨w10.heap.size, 0, none⟩ = some (.slice axB (tsB).length kxB) := by rw [hw13]; first | exact cXB12 | exact alloc_keep (cXB12)
    have cG13 : w13.cell? ⟨w12.heap.size, 0, none⟩ = some (.slice aG (lcomb 2147483646 tsA tsB).length kG) := by rw [hw13]; simp
    have tA13 := tA12.keep (show Below w12.heap.size w12 w13 by rw [hw13]; (repeat (first | exact Below.refl _ _ | assumption | refine Below.drew ?_ | refine bdrewN ?_ _ | refine Below.alloc ?_ (by first | exact Nat.le_refl _ | (simp; done) | omega | (simp; omega)) _ | refine Below.setCell ?_ (by first | exact Nat.le_refl _ | (simp; done) | omega | (simp; omega)) _))) (by omega)
    have tB13 := tB12.keep (show Below w12.heap.size w12 w13 by rw [hw13]; (repeat (first | exact Below.refl _ _ | assumption | refine Below.drew ?_ | refine bdrewN ?_ _ | refine Below.alloc ?_ (by first | exact Nat.le_refl _ | (simp; done) | omega | (simp; omega)) _ | refine Below.setCell ?_ (by first | exact Nat.le_refl _ | (simp; done) | omega | (simp; omega)) _))) (by omega)
    have tW13 := tW12.keep (show Below w12.heap.size w12 w13 by rw [hw13]; (repeat (first | exact Below.refl _ _ | assumption | refine Below.drew ?_ | refine bdrewN ?_ _ | refine Below.alloc ?_ (by first | exact Nat.le_refl _ | (simp; done) | omega | (simp; omega)) _ | refine Below.setCell ?_ (by first | exact Nat.le_refl _ | (simp; done) | omega | (simp; omega)) _))) (by omega)
    have txA13 := txA12.keep (show Below w12.heap.size w12 w13 by rw [hw13]; (repeat (first | exact Below.refl _ _ | assumption | refine Below.drew ?_ | refine bdrewN ?_ _ | refine Below.alloc ?_ (by first | exact Nat.le_refl _ | (simp; done) | omega | (simp; omega)) _ | refine Below.setCell ?_ (by first | exact Nat.le_refl _ | (simp; done) | omega | (simp; omega)) _))) (by omega)
    have txB13 := txB12.keep (show Below w12.heap.size w12 w13 by rw [hw13]; (repeat (first | exact Below.refl _ _ | assumption | refine Below.drew ?_ | refine bdrewN ?_ _ | refine Below.alloc ?_ (by first | exact Nat.le_refl _ | (simp; done) | omega | (simp; omega)) _ | refine Below.setCell ?_ (by first | exact Nat.le_refl _ | (simp; done) | omega | (simp; omega)) _))) (by omega)
    have tG13 := tG12.keep (show Below w12.heap.size w12 w13 by rw [hw13]; (repeat (first | exact Below.refl _ _ | assumption | refine Below.drew ?_ | refine bdrewN ?_ _ | refine Below.alloc ?_ (by first | exact Nat.le_refl _ | (simp; done) | omega | (simp; omega)) _ | refine Below.setCell ?_ (by first | exact Nat.le_refl _ | (simp; done) | omega | (simp; omega)) _))) (by omega)
    clear hw13
    clear cBA12 cBB12 cW12 cXA12 cXB12 tA12 tB12 tW12 txA12 txB12 tG12
    refine (eqLin_any _ _ _ _ _ _ _ _ _ _ _ tG13 tW13 (by omega) (by omega)).mono ?_; rw [dec_self]; rintro e w14 ⟨rfl, f14⟩
    have b14 := b13.trans (f14.mono (by omega))
    have z14 := f14.size
    have cBA14 := cell_keep f14 cBA13
    have cBB14 := cell_keep f14 cBB13
    have cW14 := cell_keep f14 cW13
    have cXA14 := cell_keep f14 cXA13
    have cXB14 := cell_keep f14 cXB13
    have cG14 := cell_keep f14 cG13
    have tA14 := tA13.keep f14 (by omega)
    have tB14 := tB13.keep f14 (by omega)
    have tW14 := tW13.keep f14 (by omega)
    have txA14 := txA13.keep f14 (by omega)
    have txB14 := txB13.keep f14 (by omega)
    have tG14 := tG13.keep f14 (by omega)
    clear cBA13 cBB13 cW13 cXA13 cXB13 cG13 tA13 tB13 tW13 txA13 txB13 tG13
    go_wp2_with fail
    refine name_wp fun w15 hw15 => ?_
    have b15 : Below w.heap.size w w15 := by rw [hw15]; (repeat (first | exact Below.refl _ _ | assumption | refine Below.drew ?_ | refine bdrewN ?_ _ | refine Below.alloc ?_ (by first | exact Nat.le_refl _ | (simp; done) | omega | (simp; omega)) _ | refine Below.setCell ?_ (by first | exact Nat.le_refl _ | (simp; done) | omega | (simp; omega)) _))
    have z15 : w14.heap.size + 0 ≤ w15.heap.size := by rw [hw15]; simp
    have cBA15 : w15.cell? ⟨w.heap.size, 0, none⟩ = some (.slice aA tsA.length kA) := by rw [hw15]; first | exact cBA14 | exact cBA14
    have cBB15 : w15.cell? ⟨w.heap.size + 1, 0, none⟩ = some (.slice aB tsB.length kB) := by rw [hw15]; first | exact cBB14 | exact cBB14
    have cW15 : w15.cell? ⟨g6, 0, none⟩ = some (.slice aW (lcomb 2147483646 tsA tsB).length kW) := by rw [hw15]; first | exact cW14 | exact cW14
    have cXA15 : w15.cell? ⟨w8.heap.size, 0, none⟩ = some (.slice axA (tsA).length kxA) := by rw [hw15]; first | exact cXA14 | exact cXA14
    have cXB15 : w15.cell? ⟨w10.heap.size, 0, none⟩ = some (.slice axB (tsB).length kxB) := by rw [hw15]; first | exact cXB14 | exact cXB14
    have cG15 : w15.cell? ⟨w12.heap.size, 0, none⟩ = some (.slice aG (lcomb 2147483646 tsA tsB).length kG) := by rw [hw15]; first | exact cG14 | exact cG14
    have tA15 := tA14.keep (show Below w14.heap.size w14 w15 by rw [hw15]; (repeat (first | exact Below.refl _ _ | assumption | refine Below.drew ?_ | refine bdrewN ?_ _ | refine Below.alloc ?_ (by first | exact Nat.le_refl _ | (simp; done) | omega | (simp; omega)) _ | refine Below.setCell ?_ (by first | exact Nat.le_refl _ | (simp; done) | omega | (simp; omega)) _))) (by omega)
    have tB15 := tB14.keep (show Below w14.heap.size w14 w15 by rw [hw15]; (repeat (first | exact Below.refl _ _ | assumption | refine Below.drew ?_ | refine bdrewN ?_ _ | refine Below.alloc ?_ (by first | exact Nat.le_refl _ | (simp; done) | omega | (simp; omega)) _ | refine Below.setCell ?_ (by first | exact Nat.le_refl _ | (simp; done) | omega | (simp; omega)) _))) (by omega)
    have tW15 := tW14.keep (show Below w14.heap.size w14 w15 by rw [hw15]; (repeat (first | exact Below.refl _ _ | assumption | refine Below.drew ?_ | refine bdrewN ?_ _ | refine Below.alloc ?_ (by first | exact Nat.le_refl _ | (simp; done) | omega | (simp; omega)) _ | refine Below.setCell ?_ (by first | exact Nat.le_refl _ | (simp; done) | omega | (simp; omega)) _))) (by omega)
    have txA15 := txA14.keep (show Below w14.heap.size w14 w15 by rw [hw15]; (repeat (first | exact Below.refl _ _ | assumption | refine Below.drew ?_ | refine bdrewN ?_ _ | refine Below.alloc ?_ (by first | exact Nat.le_refl _ | (simp; done) | omega | (simp; omega)) _ | refine Below.setCell ?_ (by first | exact Nat.le_refl _ | (simp; done) | omega | (simp; omega)) _))) (by omega)
    have txB15 := txB14.keep (show Below w14.heap.size w14 w15 by rw [hw15]; (repeat (first | exact Below.refl _ _ | assumption | refine Below.drew ?_ | refine bdrewN ?_ _ | refine Below.alloc ?_ (by first | exact Nat.le_refl _ | (simp; done) | omega | (simp; omega)) _ | refine Below.setCell ?_ (by first | exact Nat.le_refl _ | (simp; done) | omega | (simp; omega)) _))) (by omega)
    have tG15 := tG14.keep (show Below w14.heap.size w14 w15 by rw [hw15]; (repeat (first | exact Below.refl _ _ | assumption | refine Below.drew ?_ | refine bdrewN ?_ _ | refine Below.alloc ?_ (by first | exact Nat.le_refl _ | (simp; done) | omega | (simp; omega)) _ | refine Below.setCell ?_ (by first | exact Nat.le_refl _ | (simp; done) | omega | (simp; omega)) _))) (by omega)
    clear hw15
    clear cBA14 cBB14 cW14 cXA14 cXB14 cG14 tA14 tB14 tW14 txA14 txB14 tG14
    have b16 : Below w.heap.size w w15.drew := b15.drew
    have z16 : w15.heap.size ≤ w15.drew.heap.size := Nat.le_refl _
    have cBA16 : w15.drew.cell? ⟨w.heap.size, 0, none⟩ = some (.slice aA tsA.length kA) := cBA15
    have cBB16 : w15.drew.cell? ⟨w.heap.size + 1, 0, none⟩ = some (.slice aB tsB.length kB) := cBB15
    have cW16 : w15.drew.cell? ⟨g6, 0, none⟩ = some (.slice aW (lcomb 2147483646 tsA tsB).length kW) := cW15
    have cXA16 : w15.drew.cell? ⟨w8.heap.size, 0, none⟩ = some (.slice axA (tsA).length kxA) := cXA15
    have cXB16 : w15.drew.cell? ⟨w10.heap.size, 0, none⟩ = some (.slice axB (tsB).length kxB) := cXB15
    have cG16 : w15.drew.cell? ⟨w12.heap.size, 0, none⟩ = some (.slice aG (lcomb 2147483646 tsA tsB).length kG) := cG15
    have tA16 : Terms false (0) (w.heap.size) w15.drew (.slice aA tsA.length kA) (tsA) := tA15
    have tB16 : Terms false (0) (w.heap.size) w15.drew (.slice aB tsB.length kB) (tsB) := tB15
    have tW16 : Terms true (w5.heap.size) (w6.heap.size) w15.drew (.slice aW (lcomb 2147483646 tsA tsB).length kW) (lcomb 2147483646 tsA tsB) := tW15
    have txA16 : Terms true (w7.heap.size) (w8.heap.size) w15.drew (.slice axA (tsA).length kxA) (tsA) := txA15
    have txB16 : Terms true (w9.heap.size) (w10.heap.size) w15.drew (.slice axB (tsB).length kxB) (tsB) := txB15
    have tG16 : Terms true (w11.heap.size) (w12.heap.size) w15.drew (.slice aG (lcomb 2147483646 tsA tsB).length kG) (lcomb 2147483646 tsA tsB) := tG15
    clear cBA15 cBB15 cW15 cXA15 cXB15 cG15 tA15 tB15 tW15 txA15 txB15 tG15
    go_region_held3 (fun w' => w'.cell? ⟨w8.heap.size, 0, none⟩ = some (.slice axA (tsA).length kxA) ∧ w'.cell? ⟨w.heap.size, 0, none⟩ = some (.slice aA tsA.length kA)) (first | exact ⟨cXA16, cBA16⟩ | exact ⟨cXA17, cBA17⟩ | exact ⟨cXA18, cBA18⟩ | exact ⟨alloc_keep cXA18, alloc_keep cBA18⟩)
      (first
        | (go_at_call_of 38 (Value.agg #[Value.slice aA tsA.length kA]); refine (toLin_any _ _ _ _ _ _ tA16 (by omega) (by omega)).mono ?_; rintro e w17 ⟨u17, rfl, f17, tq17⟩; have b17 := b16.trans (f17.mono (by omega)); have z17 := f17.size; have cBA17 := cell_keep f17 cBA16; have cBB17 := cell_keep f17 cBB16; have cW17 := cell_keep f17 cW16; have cXA17 := cell_keep f17 cXA16; have cXB17 := cell_keep f17 cXB16; have cG17 := cell_keep f17 cG16; have tA17 := tA16.keep f17 (by omega); have tB17 := tB16.keep f17 (by omega); have tW17 := tW16.keep f17 (by omega); have txA17 := txA16.keep f17 (by omega); have txB17 := txB16.keep f17 (by omega); have tG17 := tG16.keep f17 (by omega); clear cBA16 cBB16 cW16 cXA16 cXB16 cG16 tA16 tB16 tW16 txA16 txB16 tG16; have tyA17 := tq17; clear tq17; obtain ⟨ayA, kyA, rfl, layA, bayA⟩ := tyA17.shape)
        | (go_at_call 39; refine (eqLin_any _ _ _ _ _ _ _ _ _ _ _ txA17 tyA17 (by omega) (by omega)).mono ?_; rw [dec_self]; rintro e w18 ⟨rfl, f18⟩; have b18 := b17.trans (f18.mono (by omega)); have z18 := f18.size; have cBA18 := cell_keep f18 cBA17; have cBB18 := cell_keep f18 cBB17; have cW18 := cell_keep f18 cW17; have cXA18 := cell_keep f18 cXA17; have cXB18 := cell_keep f18 cXB17; have cG18 := cell_keep f18 cG17; have tA18 := tA17.keep f18 (by omega); have tB18 := tB17.keep f18 (by omega); have tW18 := tW17.keep f18 (by omega); have txA18 := txA17.keep f18 (by omega); have txB18 := txB17.keep f18 (by omega); have tG18 := tG17.keep f18 (by omega); have tyA18 := tyA17.keep f18 (by omega); clear cBA17 cBB17 cW17 cXA17 cXB17 cG17 tA17 tB17 tW17 txA17 txB17 tG17 tyA17))
    clear tyA18
    go_wp2_with fail
    refine name_wp fun w19 hw19 => ?_
    have b19 : Below w.heap.size w w19 := by rw [hw19]; (repeat (first | exact Below.refl _ _ | assumption | refine Below.drew ?_ | refine bdrewN ?_ _ | refine Below.alloc ?_ (by first | exact Nat.le_refl _ | (simp; done) | omega | (simp; omega)) _ | refine Below.setCell ?_ (by first | exact Nat.le_refl _ | (simp; done) | omega | (simp; omega)) _))
    have z19 : w18.heap.size + 0 ≤ w19.heap.size := by rw [hw19]; simp
    have cBA19 : w19.cell? ⟨w.heap.size, 0, none⟩ = some (.slice aA tsA.length kA) := by rw [hw19]; first | exact cBA18 | exact cBA18
    have cBB19 : w19.cell? ⟨w.heap.size + 1, 0, none⟩ = some (.slice aB tsB.length kB) := by rw [hw19]; first | exact cBB18 | exact cBB18
    have cW19 : w19.cell? ⟨g6, 0, none⟩ = some (.slice aW (lcomb 2147483646 tsA tsB).length kW) := by rw [hw19]; first | exact cW18 | exact cW18
    have cXA19 : w19.cell? ⟨w8.heap.size, 0, none⟩ = some (.slice axA (tsA).length kxA) := by rw [hw19]; first | exact cXA18 | exact cXA18
    have cXB19 : w19.cell? ⟨w10.heap.size, 0, none⟩ = some (.slice axB (tsB).length kxB) := by rw [hw19]; first | exact cXB18 | exact cXB18
    have cG19 : w19.cell? ⟨w12.heap.size, 0, none⟩ = some (.slice aG (lcomb 2147483646 tsA tsB).length kG) := by rw [hw19]; first | exact cG18 | exact cG18
    have tA19 := tA18.keep (show Below w18.heap.size w18 w19 by rw [hw19]; (repeat (first | exact Below.refl _ _ | assumption | refine Below.drew ?_ | refine bdrewN ?_ _ | refine Below.alloc ?_ (by first | exact Nat.le_refl _ | (simp; done) | omega | (simp; omega)) _ | refine Below.setCell ?_ (by first | exact Nat.le_refl _ | (simp; done) | omega | (simp; omega)) _))) (by omega)
    have tB19 := tB18.keep (show Below w18.heap.size w18 w19 by rw [hw19]; (repeat (first | exact Below.refl _ _ | assumption | refine Below.drew ?_ | refine bdrewN ?_ _ | refine Below.alloc ?_ (by first | exact Nat.le_refl _ | (simp; done) | omega | (simp; omega)) _ | refine Below.setCell ?_ (by first | exact Nat.le_refl _ | (simp; done) | omega | (simp; omega)) _))) (by omega)
    have tW19 := tW18.keep (show Below w18.heap.size w18 w19 by rw [hw19]; (repeat (first | exact Below.refl _ _ | assumption | refine Below.drew ?_ | refine bdrewN ?_ _ | refine Below.alloc ?_ (by first | exact Nat.le_refl _ | (simp; done) | omega | (simp; omega)) _ | refine Below.setCell ?_ (by first | exact Nat.le_refl _ | (simp; done) | omega | (simp; omega)) _))) (by omega)
    have txA19 := txA18.keep (show Below w18.heap.size w18 w19 by rw [hw19]; (repeat (first | exact Below.refl _ _ | assumption | refine Below.drew ?_ | refine bdrewN ?_ _ | refine Below.alloc ?_ (by first | exact Nat.le_refl _ | (simp; done) | omega | (simp; omega)) _ | refine Below.setCell ?_ (by first | exact Nat.le_refl _ | (simp; done) | omega | (simp; omega)) _))) (by omega)
    have txB19 := txB18.keep (show Below w18.heap.size w18 w19 by rw [hw19]; (repeat (first | exact Below.refl _ _ | assumption | refine Below.drew ?_ | refine bdrewN ?_ _ | refine Below.alloc ?_ (by first | exact Nat.le_refl _ | (simp; done) | omega | (simp; omega)) _ | refine Below.setCell ?_ (by first | exact Nat.le_refl _ | (simp; done) | omega | (simp; omega)) _))) (by omega)
    have tG19 := tG18.keep (show Below w18.heap.size w18 w19 by rw [hw19]; (repeat (first | exact Below.refl _ _ | assumption | refine Below.drew ?_ | refine bdrewN ?_ _ | refine Below.alloc ?_ (by first | exact Nat.le_refl _ | (simp; done) | omega | (simp; omega)) _ | refine Below.setCell ?_ (by first | exact Nat.le_refl _ | (simp; done) | omega | (simp; omega)) _))) (by omega)
    clear hw19
    clear cBA18 cBB18 cW18 cXA18 cXB18 cG18 tA18 tB18 tW18 txA18 txB18 tG18
    have b20 : Below w.heap.size w w19.drew := b19.drew
    have z20 : w19.heap.size ≤ w19.drew.heap.size := Nat.le_refl _
    have cBA20 : w19.drew.cell? ⟨w.heap.size, 0, none⟩ = some (.slice aA tsA.length kA) := cBA19
    have cBB20 : w19.drew.cell? ⟨w.heap.size + 1, 0, none⟩ = some (.slice aB tsB.length kB) := cBB19
    have cW20 : w19.drew.cell? ⟨g6, 0, none⟩ = some (.slice aW (lcomb 2147483646 tsA tsB).length kW) := cW19
    have cXA20 : w19.drew.cell? ⟨w8.heap.size, 0, none⟩ = some (.slice axA (tsA).length kxA) := cXA19
    have cXB20 : w19.drew.cell? ⟨w10.heap.size, 0, none⟩ = some (.slice axB (tsB).length kxB) := cXB19
    have cG20 : w19.drew.cell? ⟨w12.heap.size, 0, none⟩ = some (.slice aG (lcomb 2147483646 tsA tsB).length kG) := cG19
    have tA20 : Terms false (0) (w.heap.size) w19.drew (.slice aA tsA.length kA) (tsA) := tA19
    have tB20 : Terms false (0) (w.heap.size) w19.drew (.slice aB tsB.length kB) (tsB) := tB19
    have tW20 : Terms true (w5.heap.size) (w6.heap.size) w19.drew (.slice aW (lcomb 2147483646 tsA tsB).length kW) (lcomb 2147483646 tsA tsB) := tW19
    have txA20 : Terms true (w7.heap.size) (w8.heap.size) w19.drew (.slice axA (tsA).length kxA) (tsA) := txA19
    have txB20 : Terms true (w9.heap.size) (w10.heap.size) w19.drew (.slice axB (tsB).length kxB) (tsB) := txB19
    have tG20 : Terms true (w11.heap.size) (w12.heap.size) w19.drew (.slice aG (lcomb 2147483646 tsA tsB).length kG) (lcomb 2147483646 tsA tsB) := tG19
    clear cBA19 cBB19 cW19 cXA19 cXB19 cG19 tA19 tB19 tW19 txA19 txB19 tG19
    go_region_held3 (fun w' => w'.cell? ⟨w10.heap.size, 0, none⟩ = some (.slice axB (tsB).length kxB) ∧ w'.cell? ⟨w.heap.size + 1, 0, none⟩ = some (.slice aB tsB.length kB)) (first | exact ⟨cXB20, cBB20⟩ | exact ⟨cXB21, cBB21⟩ | exact ⟨cXB22, cBB22⟩ | exact ⟨alloc_keep cXB22, alloc_keep cBB22⟩)
      (first
        | (go_at_call_of 38 (Value.agg #[Value.slice aB tsB.length kB]); refine (toLin_any _ _ _ _ _ _ tB20 (by omega) (by omega)).mono ?_; rintro e w21 ⟨u21, rfl, f21, tq21⟩; have b21 := b20.trans (f21.mono (by omega)); have z21 := f21.size; have cBA21 := cell_keep f21 cBA20; have cBB21 := cell_keep f21 cBB20; have cW21 := cell_keep f21 cW20; have cXA21 := cell_keep f21 cXA20; have cXB21 := cell_keep f21 cXB20; have cG21 := cell_keep f21 cG20; have tA21 := tA20.keep f21 (by omega); have tB21 := tB20.keep f21 (by omega); have tW21 := tW20.keep f21 (by omega); have txA21 := txA20.keep f21 (by omega); have txB21 := txB20.keep f21 (by omega); have tG21 := tG20.keep f21 (by omega); clear cBA20 cBB20 cW20 cXA20 cXB20 cG20 tA20 tB20 tW20 txA20 txB20 tG20; have tyB21 := tq21; clear tq21; obtain ⟨ayB, kyB, rfl, layB, bayB⟩ := tyB21.shape)
        | (go_at_call 39; refine (eqLin_any _ _ _ _ _ _ _ _ _ _ _ txB21 tyB21 (by omega) (by omega)).mono ?_; rw [dec_self]; rintro e w22 ⟨rfl, f22⟩; have b22 := b21.trans (f22.mono (by omega)); have z22 := f22.size; have cBA22 := cell_keep f22 cBA21; have cBB22 := cell_keep f22 cBB21; have cW22 := cell_keep f22 cW21; have cXA22 := cell_keep f22 cXA21; have cXB22 := cell_keep f22 cXB21; have cG22 := cell_keep f22 cG21; have tA22 := tA21.keep f22 (by omega); have tB22 := tB21.keep f22 (by omega); have tW22 := tW21.keep f22 (by omega); have txA22 := txA21.keep f22 (by omega); have txB22 := txB21.keep f22 (by omega); have tG22 := tG21.keep f22 (by omega); have tyB22 := tyB21.keep f22 (by omega); clear cBA21 cBB21 cW21 cXA21 cXB21 cG21 tA21 tB21 tW21 txA21 txB21 tG21 tyB21))
    clear tyB22
    go_wp2_with fail
    refine name_call fun w23 hw23 => ?_
    have b23 : Below w.heap.size w w23 := by rw [hw23]; (repeat (first | exact Below.refl _ _ | assumption | refine Below.drew ?_ | refine bdrewN ?_ _ | refine Below.alloc ?_ (by first | exact Nat.le_refl _ | (simp; done) | omega | (simp; omega)) _ | refine Below.setCell ?_ (by first | exact Nat.le_refl _ | (simp; done) | omega | (simp; omega)) _))
    have z23 : w22.heap.size + 0 ≤ w23.heap.size := by rw [hw23]; simp
    have cBA23 : w23.cell? ⟨w.heap.size, 0, none⟩ = some (.slice aA tsA.length kA) := by rw [hw23]; first | exact cBA22 | exact cBA22
    have cBB23 : w23.cell? ⟨w.heap.size + 1, 0, none⟩ = some (.slice aB tsB.length kB) := by rw [hw23]; first | exact cBB22 | exact cBB22
    have cW23 : w23.cell? ⟨g6, 0, none⟩ = some (.slice aW (lcomb 2147483646 tsA tsB).length kW) := by rw [hw23]; first | exact cW22 | exact cW22
    have cXA23 : w23.cell? ⟨w8.heap.size, 0, none⟩ = some (.slice axA (tsA).length kxA) := by rw [hw23]; first | exact cXA22 | exact cXA22
    have cXB23 : w23.cell? ⟨w10.heap.size, 0, none⟩ = some (.slice axB (tsB).length kxB) := by rw [hw23]; first | exact cXB22 | exact cXB22
    have cG23 : w23.cell? ⟨w12.heap.size, 0, none⟩ = some (.slice aG (lcomb 2147483646 tsA tsB).length kG) := by rw [hw23]; first | exact cG22 | exact cG22
    have tA23 := tA22.keep (show Below w22.heap.size w22 w23 by rw [hw23]; (repeat (first | exact Below.refl _ _ | assumption | refine Below.drew ?_ | refine bdrewN ?_ _ | refine Below.alloc ?_ (by first | exact Nat.le_refl _ | (simp; done) | omega | (simp; omega)) _ | refine Below.setCell ?_ (by first | exact Nat.le_refl _ | (simp; done) | omega | (simp; omega)) _))) (by omega)
    have tB23 := tB22.keep (show Below w22.heap.size w22 w23 by rw [hw23]; (repeat (first | exact Below.refl _ _ | assumption | refine Below.drew ?_ | refine bdrewN ?_ _ | refine Below.alloc ?_ (by first | exact Nat.le_refl _ | (simp; done) | omega | (simp; omega)) _ | refine Below.setCell ?_ (by first | exact Nat.le_refl _ | (simp; done) | omega | (simp; omega)) _))) (by omega)
    have tW23 := tW22.keep (show Below w22.heap.size w22 w23 by rw [hw23]; (repeat (first | exact Below.refl _ _ | assumption | refine Below.drew ?_ | refine bdrewN ?_ _ | refine Below.alloc ?_ (by first | exact Nat.le_refl _ | (simp; done) | omega | (simp; omega)) _ | refine Below.setCell ?_ (by first | exact Nat.le_refl _ | (simp; done) | omega | (simp; omega)) _))) (by omega)
    have txA23 := txA22.keep (show Below w22.heap.size w22 w23 by rw [hw23]; (repeat (first | exact Below.refl _ _ | assumption | refine Below.drew ?_ | refine bdrewN ?_ _ | refine Below.alloc ?_ (by first | exact Nat.le_refl _ | (simp; done) | omega | (simp; omega)) _ | refine Below.setCell ?_ (by first | exact Nat.le_refl _ | (simp; done) | omega | (simp; omega)) _))) (by omega)
    have txB23 := txB22.keep (show Below w22.heap.size w22 w23 by rw [hw23]; (repeat (first | exact Below.refl _ _ | assumption | refine Below.drew ?_ | refine bdrewN ?_ _ | refine Below.alloc ?_ (by first | exact Nat.le_refl _ | (simp; done) | omega | (simp; omega)) _ | refine Below.setCell ?_ (by first | exact Nat.le_refl _ | (simp; done) | omega | (simp; omega)) _))) (by omega)
    have tG23 := tG22.keep (show Below w22.heap.size w22 w23 by rw [hw23]; (repeat (first | exact Below.refl _ _ | assumption | refine Below.drew ?_ | refine bdrewN ?_ _ | refine Below.alloc ?_ (by first | exact Nat.le_refl _ | (simp; done) | omega | (simp; omega)) _ | refine Below.setCell ?_ (by first | exact Nat.le_refl _ | (simp; done) | omega | (simp; omega)) _))) (by omega)
    clear hw23
    clear cBA22 cBB22 cW22 cXA22 cXB22 cG22 tA22 tB22 tW22 txA22 txB22 tG22
    refine (markLin_any _ _ _ _ (1) w23 txA23 (by omega) (by omega) (by omega)).mono ?_; rintro e w24 ⟨rfl, f24, tq24⟩
    have b24 := b23.trans (f24.below (by omega) (by omega))
    have z24 := f24.size
    have cBA24 := (f24.cell (b := w.heap.size) (by omega) (by omega) 0).trans cBA23
    have cBB24 := (f24.cell (b := w.heap.size + 1) (by omega) (by omega) 0).trans cBB23
    have cW24 := (f24.cell (b := g6) (by omega) (by omega) 0).trans cW23
    have cXA24 := (f24.cell (b := w8.heap.size) (by omega) (by omega) 0).trans cXA23
    have cXB24 := (f24.cell (b := w10.heap.size) (by omega) (by omega) 0).trans cXB23
    have cG24 := (f24.cell (b := w12.heap.size) (by omega) (by omega) 0).trans cG23
    have tA24 := tA23.only f24 (by omega) (by omega)
    have tB24 := tB23.only f24 (by omega) (by omega)
    have tW24 := tW23.only f24 (by omega) (by omega)
    have txA24 := tq24; clear tq24
    have txB24 := txB23.only f24 (by omega) (by omega)
    have tG24 := tG23.only f24 (by omega) (by omega)
    clear cBA23 cBB23 cW23 cXA23 cXB23 cG23 tA23 tB23 tW23 txA23 txB23 tG23
    go_wp2_with fail
    refine name_call fun w25 hw25 => ?_
    have b25 : Below w.heap.size w w25 := by rw [hw25]; (repeat (first | exact Below.refl _ _ | assumption | refine Below.drew ?_ | refine bdrewN ?_ _ | refine Below.alloc ?_ (by first | exact Nat.le_refl _ | (simp; done) | omega | (simp; omega)) _ | refine Below.setCell ?_ (by first | exact Nat.le_refl _ | (simp; done) | omega | (simp; omega)) _))
    have z25 : w24.heap.size + 0 ≤ w25.heap.size := by rw [hw25]; simp
    have cBA25 : w25.cell? ⟨w.heap.size, 0, none⟩ = some (.slice aA tsA.length kA) := by rw [hw25]; first | exact cBA24 | exact cBA24
    have cBB25 : w25.cell? ⟨w.heap.size + 1, 0, none⟩ = some (.slice aB tsB.length kB) := by rw [hw25]; first | exact cBB24 | exact cBB24
    have cW25 : w25.cell? ⟨g6, 0, none⟩ = some (.slice aW (lcomb 2147483646 tsA tsB).length kW) := by rw [hw25]; first | exact cW24 | exact cW24
    have cXA25 : w25.cell? ⟨w8.heap.size, 0, none⟩ = some (.slice axA (tsA).length kxA) := by rw [hw25]; first | exact cXA24 | exact cXA24
    have cXB25 : w25.cell? ⟨w10.heap.size, 0, none⟩ = some (.slice axB (tsB).length kxB) := by rw [hw25]; first | exact cXB24 | exact cXB24
    have cG25 : w25.cell? ⟨w12.heap.size, 0, none⟩ = some (.slice aG (lcomb 2147483646 tsA tsB).length kG) := by rw [hw25]; first | exact cG24 | exact cG24
    have tA25 := tA24.keep (show Below w24.heap.size w24 w25 by rw [hw25]; (repeat (first | exact Below.refl _ _ | assumption | refine Below.drew ?_ | refine bdrewN ?_ _ | refine Below.alloc ?_ (by first | exact Nat.le_refl _ | (simp; done) | omega | (simp; omega)) _ | refine Below.setCell ?_ (by first | exact Nat.le_refl _ | (simp; done) | omega | (simp; omega)) _))) (by omega)
    have tB25 := tB24.keep (show Below w24.heap.size w24 w25 by rw [hw25]; (repeat (first | exact Below.refl _ _ | assumption | refine Below.drew ?_ | refine bdrewN ?_ _ | refine Below.alloc ?_ (by first | exact Nat.le_refl _ | (simp; done) | omega | (simp; omega)) _ | refine Below.setCell ?_ (by first | exact Nat.le_refl _ | (simp; done) | omega | (simp; omega)) _))) (by omega)
    have tW25 := tW24.keep (show Below w24.heap.size w24 w25 by rw [hw25]; (repeat (first | exact Below.refl _ _ | assumption | refine Below.drew ?_ | refine bdrewN ?_ _ | refine Below.alloc ?_ (by first | exact Nat.le_refl _ | (simp; done) | omega | (simp; omega)) _ | refine Below.setCell ?_ (by first | exact Nat.le_refl _ | (simp; done) | omega | (simp; omega)) _))) (by omega)
    have txA25 := txA24.keep (show Below w24.heap.size w24 w25 by rw [hw25]; (repeat (first | exact Below.refl _ _ | assumption | refine Below.drew ?_ | refine bdrewN ?_ _ | refine Below.alloc ?_ (by first | exact Nat.le_refl _ | (simp; done) | omega | (simp; omega)) _ | refine Below.setCell ?_ (by first | exact Nat.le_refl _ | (simp; done) | omega | (simp; omega)) _))) (by omega)
    have txB25 := txB24.keep (show Below w24.heap.size w24 w25 by rw [hw25]; (repeat (first | exact Below.refl _ _ | assumption | refine Below.drew ?_ | refine bdrewN ?_ _ | refine Below.alloc ?_ (by first | exact Nat.le_refl _ | (simp; done) | omega | (simp; omega)) _ | refine Below.setCell ?_ (by first | exact Nat.le_refl _ | (simp; done) | omega | (simp; omega)) _))) (by omega)
    have tG25 := tG24.keep (show Below w24.heap.size w24 w25 by rw [hw25]; (repeat (first | exact Below.refl _ _ | assumption | refine Below.drew ?_ | refine bdrewN ?_ _ | refine Below.alloc ?_ (by first | exact Nat.le_refl _ | (simp; done) | omega | (simp; omega)) _ | refine Below.setCell ?_ (by first | exact Nat.le_refl _ | (simp; done) | omega | (simp; omega)) _))) (by omega)
    clear hw25
    clear cBA24 cBB24 cW24 cXA24 cXB24 cG24 tA24 tB24 tW24 txA24 txB24 tG24
    refine (markLin_any _ _ _ _ (1 + 2 * tsA.length) w25 txB25 (by omega) (by omega) (by omega)).mono ?_; rintro e w26 ⟨rfl, f26, tq26⟩
    have b26 := b25.trans (f26.below (by omega) (by omega))
    have z26 := f26.size
    have cBA26 := (f26.cell (b := w.heap.size) (by omega) (by omega) 0).trans cBA25
    have cBB26 := (f26.cell (b := w.heap.size + 1) (by omega) (by omega) 0).trans cBB25
    have cW26 := (f26.cell (b := g6) (by omega) (by omega) 0).trans cW25
    have cXA26 := (f26.cell (b := w8.heap.size) (by omega) (by omega) 0).trans cXA25
    have cXB26 := (f26.cell (b := w10.heap.size) (by omega) (by omega) 0).trans cXB25
    have cG26 := (f26.cell (b := w12.heap.size) (by omega) (by omega) 0).trans cG25
    have tA26 := tA25.only f26 (by omega) (by omega)
    have tB26 := tB25.only f26 (by omega) (by omega)
    have tW26 := tW25.only f26 (by omega) (by omega)
    have txA26 := txA25.only f26 (by omega) (by omega)
    have txB26 := tq26; clear tq26
    have tG26 := tG25.only f26 (by omega) (by omega)
    clear cBA25 cBB25 cW25 cXA25 cXB25 cG25 tA25 tB25 tW25 txA25 txB25 tG25
    go_wp2_with fail
    refine name_call fun w27 hw27 => ?_
    have b27 : Below w.heap.size w w27 := by rw [hw27]; (repeat (first | exact Below.refl _ _ | assumption | refine Below.drew ?_ | refine bdrewN ?_ _ | refine Below.alloc ?_ (by first | exact Nat.le_refl _ | (simp; done) | omega | (simp; omega)) _ | refine Below.setCell ?_ (by first | exact Nat.le_refl _ | (simp; done) | omega | (simp; omega)) _))
    have z27 : w26.heap.size + 0 ≤ w27.heap.size := by rw [hw27]; simp
    have cBA27 : w27.cell? ⟨w.heap.size, 0, none⟩ = some (.slice aA tsA.length kA) := by rw [hw27]; first | exact cBA26 | exact cBA26
    have cBB27 : w27.cell? ⟨w.heap.size + 1, 0, none⟩ = some (.slice aB tsB.length kB) := by rw [hw27]; first | exact cBB26 | exact cBB26
    have cW27 : w27.cell? ⟨g6, 0, none⟩ = some (.slice aW (lcomb 2147483646 tsA tsB).length kW) := by rw [hw27]; first | exact cW26 | exact cW26
    have cXA27 : w27.cell? ⟨w8.heap.size, 0, none⟩ = some (.slice axA (tsA).length kxA) := by rw [hw27]; first | exact cXA26 | exact cXA26
    have cXB27 : w27.cell? ⟨w10.heap.size, 0, none⟩ = some (.slice axB (tsB).length kxB) := by rw [hw27]; first | exact cXB26 | exact cXB26
    have cG27 : w27.cell? ⟨w12.heap.size, 0, none⟩ = some (.slice aG (lcomb 2147483646 tsA tsB).length kG) := by rw [hw27]; first | exact cG26 | exact cG26
    have tA27 := tA26.keep (show Below w26.heap.size w26 w27 by rw [hw27]; (repeat (first | exact Below.refl _ _ | assumption | refine Below.drew ?_ | refine bdrewN ?_ _ | refine Below.alloc ?_ (by first | exact Nat.le_refl _ | (simp; done) | omega | (simp; omega)) _ | refine Below.setCell ?_ (by first | exact Nat.le_refl _ | (simp; done) | omega | (simp; omega)) _))) (by omega)
    have tB27 := tB26.keep (show Below w26.heap.size w26 w27 by rw [hw27]; (repeat (first | exact Below.refl _ _ | assumption | refine Below.drew ?_ | refine bdrewN ?_ _ | refine Below.alloc ?_ (by first | exact Nat.le_refl _ | (simp; done) | omega | (simp; omega)) _ | refine Below.setCell ?_ (by first | exact Nat.le_refl _ | (simp; done) | omega | (simp; omega)) _))) (by omega)
    have tW27 := tW26.keep (show Below w26.heap.size w26 w27 by rw [hw27]; (repeat (first | exact Below.refl _ _ | assumption | refine Below.drew ?_ | refine bdrewN ?_ _ | refine Below.alloc ?_ (by first | exact Nat.le_refl _ | (simp; done) | omega | (simp; omega)) _ | refine Below.setCell ?_ (by first | exact Nat.le_refl _ | (simp; done) | omega | (simp; omega)) _))) (by omega)
    have txA27 := txA26.keep (show Below w26.heap.size w26 w27 by rw [hw27]; (repeat (first | exact Below.refl _ _ | assumption | refine Below.drew ?_ | refine bdrewN ?_ _ | refine Below.alloc ?_ (by first | exact Nat.le_refl _ | (simp; done) | omega | (simp; omega)) _ | refine Below.setCell ?_ (by first | exact Nat.le_refl _ | (simp; done) | omega | (simp; omega)) _))) (by omega)
    have txB27 := txB26.keep (show Below w26.heap.size w26 w27 by rw [hw27]; (repeat (first | exact Below.refl _ _ | assumption | refine Below.drew ?_ | refine bdrewN ?_ _ | refine Below.alloc ?_ (by first | exact Nat.le_refl _ | (simp; done) | omega | (simp; omega)) _ | refine Below.setCell ?_ (by first | exact Nat.le_refl _ | (simp; done) | omega | (simp; omega)) _))) (by omega)
    have tG27 := tG26.keep (show Below w26.heap.size w26 w27 by rw [hw27]; (repeat (first | exact Below.refl _ _ | assumption | refine Below.drew ?_ | refine bdrewN ?_ _ | refine Below.alloc ?_ (by first | exact Nat.le_refl _ | (simp; done) | omega | (simp; omega)) _ | refine Below.setCell ?_ (by first | exact Nat.le_refl _ | (simp; done) | omega | (simp; omega)) _))) (by omega)
    clear hw27
    clear cBA26 cBB26 cW26 cXA26 cXB26 cG26 tA26 tB26 tW26 txA26 txB26 tG26
    refine (eqLin_any _ _ _ _ _ _ _ _ _ _ _ tG27 tW27 (by omega) (by omega)).mono ?_; rw [dec_self]; rintro e w28 ⟨rfl, f28⟩
    have b28 := b27.trans (f28.mono (by omega))
    have z28 := f28.size
    have cBA28 := cell_keep f28 cBA27
    have cBB28 := cell_keep f28 cBB27
    have cW28 := cell_keep f28 cW27
    have cXA28 := cell_keep f28 cXA27
    have cXB28 := cell_keep f28 cXB27
    have cG28 := cell_keep f28 cG27
    have tA28 := tA27.keep f28 (by omega)
    have tB28 := tB27.keep f28 (by omega)
    have tW28 := tW27.keep f28 (by omega)
    have txA28 := txA27.keep f28 (by omega)
    have txB28 := txB27.keep f28 (by omega)
    have tG28 := tG27.keep f28 (by omega)
    clear cBA27 cBB27 cW27 cXA27 cXB27 cG27 tA27 tB27 tW27 txA27 txB27 tG27
    clear txA28
    clear txB28
    go_wp2_with fail
    refine name_call fun w29 hw29 => ?_
    have b29 : Below w.heap.size w w29 := by rw [hw29]; (repeat (first | exact Below.refl _ _ | assumption | refine Below.drew ?_ | refine bdrewN ?_ _ | refine Below.alloc ?_ (by first | exact Nat.le_refl _ | (simp; done) | omega | (simp; omega)) _ | refine Below.setCell ?_ (by first | exact Nat.le_refl _ | (simp; done) | omega | (simp; omega)) _))
    have z29 : w28.heap.size + 0 ≤ w29.heap.size := by rw [hw29]; simp
    have cBA29 : w29.cell? ⟨w.heap.size, 0, none⟩ = some (.slice aA tsA.length kA) := by rw [hw29]; first | exact cBA28 | exact cBA28
    have cBB29 : w29.cell? ⟨w.heap.size + 1, 0, none⟩ = some (.slice aB tsB.length kB) := by rw [hw29]; first | exact cBB28 | exact cBB28
    have cW29 : w29.cell? ⟨g6, 0, none⟩ = some (.slice aW (lcomb 2147483646 tsA tsB).length kW) := by rw [hw29]; first | exact cW28 | exact cW28
    have cXA29 : w29.cell? ⟨w8.heap.size, 0, none⟩ = some (.slice axA (tsA).length kxA) := by rw [hw29]; first | exact cXA28 | exact cXA28
    have cXB29 : w29.cell? ⟨w10.heap.size, 0, none⟩ = some (.slice axB (tsB).length kxB) := by rw [hw29]; first | exact cXB28 | exact cXB28
    have cG29 : w29.cell? ⟨w12.heap.size, 0, none⟩ = some (.slice aG (lcomb 2147483646 tsA tsB).length kG) := by rw [hw29]; first | exact cG28 | exact cG28
    have tA29 := tA28.keep (show Below w28.heap.size w28 w29 by rw [hw29]; (repeat (first | exact Below.refl _ _ | assumption | refine Below.drew ?_ | refine bdrewN ?_ _ | refine Below.alloc ?_ (by first | exact Nat.le_refl _ | (simp; done) | omega | (simp; omega)) _ | refine Below.setCell ?_ (by first | exact Nat.le_refl _ | (simp; done) | omega | (simp; omega)) _))) (by omega)
    have tB29 := tB28.keep (show Below w28.heap.size w28 w29 by rw [hw29]; (repeat (first | exact Below.refl _ _ | assumption | refine Below.drew ?_ | refine bdrewN ?_ _ | refine Below.alloc ?_ (by first | exact Nat.le_refl _ | (simp; done) | omega | (simp; omega)) _ | refine Below.setCell ?_ (by first | exact Nat.le_refl _ | (simp; done) | omega | (simp; omega)) _))) (by omega)
    have tW29 := tW28.keep (show Below w28.heap.size w28 w29 by rw [hw29]; (repeat (first | exact Below.refl _ _ | assumption | refine Below.drew ?_ | refine bdrewN ?_ _ | refine Below.alloc ?_ (by first | exact Nat.le_refl _ | (simp; done) | omega | (simp; omega)) _ | refine Below.setCell ?_ (by first | exact Nat.le_refl _ | (simp; done) | omega | (simp; omega)) _))) (by omega)
    have tG29 := tG28.keep (show Below w28.heap.size w28 w29 by rw [hw29]; (repeat (first | exact Below.refl _ _ | assumption | refine Below.drew ?_ | refine bdrewN ?_ _ | refine Below.alloc ?_ (by first | exact Nat.le_refl _ | (simp; done) | omega | (simp; omega)) _ | refine Below.setCell ?_ (by first | exact Nat.le_refl _ | (simp; done) | omega | (simp; omega)) _))) (by omega)
    clear hw29
    clear cBA28 cBB28 cW28 cXA28 cXB28 cG28 tA28 tB28 tW28 tG28
    refine (markLin_any _ _ _ _ (1) w29 tG29 (by omega) (by omega) (by omega)).mono ?_; rintro e w30 ⟨rfl, f30, tq30⟩
    have b30 := b29.trans (f30.below (by omega) (by omega))
    have z30 := f30.size
    have cBA30 := (f30.cell (b := w.heap.size) (by omega) (by omega) 0).trans cBA29
    have cBB30 := (f30.cell (b := w.heap.size + 1) (by omega) (by omega) 0).trans cBB29
    have cW30 := (f30.cell (b := g6) (by omega) (by omega) 0).trans cW29
    have cXA30 := (f30.cell (b := w8.heap.size) (by omega) (by omega) 0).trans cXA29
    have cXB30 := (f30.cell (b := w10.heap.size) (by omega) (by omega) 0).trans cXB29
    have cG30 := (f30.cell (b := w12.heap.size) (by omega) (by omega) 0).trans cG29
    have tA30 := tA29.only f30 (by omega) (by omega)
    have tB30 := tB29.only f30 (by omega) (by omega)
    have tW30 := tW29.only f30 (by omega) (by omega)
    have tG30 := tq30; clear tq30
    clear cBA29 cBB29 cW29 cXA29 cXB29 cG29 tA29 tB29 tW29 tG29
    go_wp2_with fail
    refine name_call fun w31 hw31 => ?_
    have b31 : Below w.heap.size w w31 := by rw [hw31]; (repeat (first | exact Below.refl _ _ | assumption | refine Below.drew ?_ | refine bdrewN ?_ _ | refine Below.alloc ?_ (by first | exact Nat.le_refl _ | (simp; done) | omega | (simp; omega)) _ | refine Below.setCell ?_ (by first | exact Nat.le_refl _ | (simp; done) | omega | (simp; omega)) _))
    have z31 : w30.heap.size + 0 ≤ w31.heap.size := by rw [hw31]; simp
    have cBA31 : w31.cell? ⟨w.heap.size, 0, none⟩ = some (.slice aA tsA.length kA) := by rw [hw31]; first | exact cBA30 | exact cBA30
    have cBB31 : w31.cell? ⟨w.heap.size + 1, 0, none⟩ = some (.slice aB tsB.length kB) := by rw [hw31]; first | exact cBB30 | exact cBB30
    have cW31 : w31.cell? ⟨g6, 0, none⟩ = some (.slice aW (lcomb 2147483646 tsA tsB).length kW) := by rw [hw31]; first | exact cW30 | exact cW30
    have cXA31 : w31.cell? ⟨w8.heap.size, 0, none⟩ = some (.slice axA (tsA).length kxA) := by rw [hw31]; first | exact cXA30 | exact cXA30
    have cXB31 : w31.cell? ⟨w10.heap.size, 0, none⟩ = some (.slice axB (tsB).length kxB) := by rw [hw31]; first | exact cXB30 | exact cXB30
    have cG31 : w31.cell? ⟨w12.heap.size, 0, none⟩ = some (.slice aG (lcomb 2147483646 tsA tsB).length kG) := by rw [hw31]; first | exact cG30 | exact cG30
    have tA31 := tA30.keep (show Below w30.heap.size w30 w31 by rw [hw31]; (repeat (first | exact Below.refl _ _ | assumption | refine Below.drew ?_ | refine bdrewN ?_ _ | refine Below.alloc ?_ (by first | exact Nat.le_refl _ | (simp; done) | omega | (simp; omega)) _ | refine Below.setCell ?_ (by first | exact Nat.le_refl _ | (simp; done) | omega | (simp; omega)) _))) (by omega)
    have tB31 := tB30.keep (show Below w30.heap.size w30 w31 by rw [hw31]; (repeat (first | exact Below.refl _ _ | assumption | refine Below.drew ?_ | refine bdrewN ?_ _ | refine Below.alloc ?_ (by first | exact Nat.le_refl _ | (simp; done) | omega | (simp; omega)) _ | refine Below.setCell ?_ (by first | exact Nat.le_refl _ | (simp; done) | omega | (simp; omega)) _))) (by omega)
    have tW31 := tW30.keep (show Below w30.heap.size w30 w31 by rw [hw31]; (repeat (first | exact Below.refl _ _ | assumption | refine Below.drew ?_ | refine bdrewN ?_ _ | refine Below.alloc ?_ (by first | exact Nat.le_refl _ | (simp; done) | omega | (simp; omega)) _ | refine Below.setCell ?_ (by first | exact Nat.le_refl _ | (simp; done) | omega | (simp; omega)) _))) (by omega)
    have tG31 := tG30.keep (show Below w30.heap.size w30 w31 by rw [hw31]; (repeat (first | exact Below.refl _ _ | assumption | refine Below.drew ?_ | refine bdrewN ?_ _ | refine Below.alloc ?_ (by first | exact Nat.le_refl _ | (simp; done) | omega | (simp; omega)) _ | refine Below.setCell ?_ (by first | exact Nat.le_refl _ | (simp; done) | omega | (simp; omega)) _))) (by omega)
    clear hw31
    clear cBA30 cBB30 cW30 cXA30 cXB30 cG30 tA30 tB30 tW30 tG30
    refine (heldLin_any _ _ _ _ _ 1 _ tG31 (by omega) (by omega) (by omega)).mono ?_; rintro e w32 ⟨rfl, f32⟩
    have b32 := b31.trans (f32.mono (by omega))
    have z32 := f32.size
    have cBA32 := cell_keep f32 cBA31
    have cBB32 := cell_keep f32 cBB31
    have cW32 := cell_keep f32 cW31
    have cXA32 := cell_keep f32 cXA31
    have cXB32 := cell_keep f32 cXB31
    have cG32 := cell_keep f32 cG31
    have tA32 := tA31.keep f32 (by omega)
    have tB32 := tB31.keep f32 (by omega)
    have tW32 := tW31.keep f32 (by omega)
    have tG32 := tG31.keep f32 (by omega)
    clear cBA31 cBB31 cW31 cXA31 cXB31 cG31 tA31 tB31 tW31 tG31
    go_wp2_with fail
    refine name_wp fun w33 hw33 => ?_
    have b33 : Below w.heap.size w w33 := by rw [hw33]; (repeat (first | exact Below.refl _ _ | assumption | refine Below.drew ?_ | refine bdrewN ?_ _ | refine Below.alloc ?_ (by first | exact Nat.le_refl _ | (simp; done) | omega | (simp; omega)) _ | refine Below.setCell ?_ (by first | exact Nat.le_refl _ | (simp; done) | omega | (simp; omega)) _))
    have z33 : w32.heap.size + 0 ≤ w33.heap.size := by rw [hw33]; simp
    have cBA33 : w33.cell? ⟨w.heap.size, 0, none⟩ = some (.slice aA tsA.length kA) := by rw [hw33]; first | exact cBA32 | exact cBA32
    have cBB33 : w33.cell? ⟨w.heap.size + 1, 0, none⟩ = some (.slice aB tsB.length kB) := by rw [hw33]; first | exact cBB32 | exact cBB32
    have cW33 : w33.cell? ⟨g6, 0, none⟩ = some (.slice aW (lcomb 2147483646 tsA tsB).length kW) := by rw [hw33]; first | exact cW32 | exact cW32
    have cXA33 : w33.cell? ⟨w8.heap.size, 0, none⟩ = some (.slice axA (tsA).length kxA) := by rw [hw33]; first | exact cXA32 | exact cXA32
    have cXB33 : w33.cell? ⟨w10.heap.size, 0, none⟩ = some (.slice axB (tsB).length kxB) := by rw [hw33]; first | exact cXB32 | exact cXB32
    have cG33 : w33.cell? ⟨w12.heap.size, 0, none⟩ = some (.slice aG (lcomb 2147483646 tsA tsB).length kG) := by rw [hw33]; first | exact cG32 | exact cG32
    have tA33 := tA32.keep (show Below w32.heap.size w32 w33 by rw [hw33]; (repeat (first | exact Below.refl _ _ | assumption | refine Below.drew ?_ | refine bdrewN ?_ _ | refine Below.alloc ?_ (by first | exact Nat.le_refl _ | (simp; done) | omega | (simp; omega)) _ | refine Below.setCell ?_ (by first | exact Nat.le_refl _ | (simp; done) | omega | (simp; omega)) _))) (by omega)
    have tB33 := tB32.keep (show Below w32.heap.size w32 w33 by rw [hw33]; (repeat (first | exact Below.refl _ _ | assumption | refine Below.drew ?_ | refine bdrewN ?_ _ | refine Below.alloc ?_ (by first | exact Nat.le_refl _ | (simp; done) | omega | (simp; omega)) _ | refine Below.setCell ?_ (by first | exact Nat.le_refl _ | (simp; done) | omega | (simp; omega)) _))) (by omega)
    have tW33 := tW32.keep (show Below w32.heap.size w32 w33 by rw [hw33]; (repeat (first | exact Below.refl _ _ | assumption | refine Below.drew ?_ | refine bdrewN ?_ _ | refine Below.alloc ?_ (by first | exact Nat.le_refl _ | (simp; done) | omega | (simp; omega)) _ | refine Below.setCell ?_ (by first | exact Nat.le_refl _ | (simp; done) | omega | (simp; omega)) _))) (by omega)
    have tG33 := tG32.keep (show Below w32.heap.size w32 w33 by rw [hw33]; (repeat (first | exact Below.refl _ _ | assumption | refine Below.drew ?_ | refine bdrewN ?_ _ | refine Below.alloc ?_ (by first | exact Nat.le_refl _ | (simp; done) | omega | (simp; omega)) _ | refine Below.setCell ?_ (by first | exact Nat.le_refl _ | (simp; done) | omega | (simp; omega)) _))) (by omega)
    clear hw33
    clear cBA32 cBB32 cW32 cXA32 cXB32 cG32 tA32 tB32 tW32 tG32
    have d33 : Below w33.heap.size w33 w33.drew := (Below.refl _ _).drew
    have zd33 : w33.drew.heap.size ≤ w33.heap.size := Nat.le_refl _
    have ze33 : w33.heap.size ≤ w33.drew.heap.size := Nat.le_refl _
    have eBA : w33.drew.cell? ⟨w.heap.size, 0, none⟩ = some (.slice aA tsA.length kA) := cell_keep d33 cBA33
    have eBB : w33.drew.cell? ⟨w.heap.size + 1, 0, none⟩ = some (.slice aB tsB.length kB) := cell_keep d33 cBB33
    have eA := tA33.keep d33 (by omega)
    have eB := tB33.keep d33 (by omega)
    go_cut [15, 16] (fun s15 s16 wx => CutW w33 (lcomb 2147483646 tsA tsB) (lok tsA tsB) s15 s16 wx)
    case first =>
      go_region_held3 (fun w' => w'.cell? ⟨w.heap.size, 0, none⟩ = some (.slice aA tsA.length kA) ∧ w'.cell? ⟨w.heap.size + 1, 0, none⟩ = some (.slice aB tsB.length kB) ∧ Below w33.drew.heap.size w33.drew w') (first | exact ⟨eBA, eBB, Below.refl _ _⟩ | exact keep2 eBA eBB (by (repeat (first | exact Below.refl _ _ | assumption | refine Below.alloc ?_ (by first | exact Nat.le_refl _ | exact Below.size (by assumption) | (simp; done) | omega | (simp; omega)) _ | refine Below.setCell ?_ (by first | exact Nat.le_refl _ | exact Below.size (by assumption) | (simp; done) | omega | (simp; omega)) _))))
        (first
          | (go_at_call_of 38 (Value.agg #[Value.slice aA tsA.length kA]); refine (toLin_any _ _ _ _ _ _ (eA.keep (B := w33.drew.heap.size) (by (repeat (first | exact Below.refl _ _ | assumption | refine Below.alloc ?_ (by first | exact Nat.le_refl _ | exact Below.size (by assumption) | (simp; done) | omega | (simp; omega)) _ | refine Below.setCell ?_ (by first | exact Nat.le_refl _ | exact Below.size (by assumption) | (simp; done) | omega | (simp; omega)) _))) (by omega)) (Nat.le_trans (show w.heap.size ≤ w33.drew.heap.size by omega) (Below.size (B := w33.drew.heap.size) (by (repeat (first | exact Below.refl _ _ | assumption | refine Below.alloc ?_ (by first | exact Nat.le_refl _ | exact Below.size (by assumption) | (simp; done) | omega | (simp; omega)) _ | refine Below.setCell ?_ (by first | exact Nat.le_refl _ | exact Below.size (by assumption) | (simp; done) | omega | (simp; omega)) _))))) (by omega)).mono ?_; rintro e p0 ⟨q0, rfl, g0, r0⟩; obtain ⟨am0, km0, rfl, lm0, bm0⟩ := r0.shape; have G0 := chain_step g0 (show Below w33.drew.heap.size w33.drew _ by (repeat (first | exact Below.refl _ _ | assumption | refine Below.alloc ?_ (by first | exact Nat.le_refl _ | exact Below.size (by assumption) | (simp; done) | omega | (simp; omega)) _ | refine Below.setCell ?_ (by first | exact Nat.le_refl _ | exact Below.size (by assumption) | (simp; done) | omega | (simp; omega)) _))); have ⟨hc0, hf0⟩ := bcell g0; have z0q := g0.size; (try simp at z0q); (try have y0x : w33.heap.size < p0.heap.size := by omega))
          | (go_at_call_of 38 (Value.agg #[Value.slice aB tsB.length kB]); refine (toLin_any _ _ _ _ _ _ (eB.keep (B := w33.drew.heap.size) (by (repeat (first | exact Below.refl _ _ | assumption | refine Below.alloc ?_ (by first | exact Nat.le_refl _ | exact Below.size (by assumption) | (simp; done) | omega | (simp; omega)) _ | refine Below.setCell ?_ (by first | exact Nat.le_refl _ | exact Below.size (by assumption) | (simp; done) | omega | (simp; omega)) _))) (by omega)) (Nat.le_trans (show w.heap.size ≤ w33.drew.heap.size by omega) (Below.size (B := w33.drew.heap.size) (by (repeat (first | exact Below.refl _ _ | assumption | refine Below.alloc ?_ (by first | exact Nat.le_refl _ | exact Below.size (by assumption) | (simp; done) | omega | (simp; omega)) _ | refine Below.setCell ?_ (by first | exact Nat.le_refl _ | exact Below.size (by assumption) | (simp; done) | omega | (simp; omega)) _))))) (by omega)).mono ?_; rintro e p1 ⟨q1, rfl, g1, r1⟩; obtain ⟨am1, km1, rfl, lm1, bm1⟩ := r1.shape; have G1 := chain_step g1 (show Below w33.drew.heap.size w33.drew _ by (repeat (first | exact Below.refl _ _ | assumption | refine Below.alloc ?_ (by first | exact Nat.le_refl _ | exact Below.size (by assumption) | (simp; done) | omega | (simp; omega)) _ | refine Below.setCell ?_ (by first | exact Nat.le_refl _ | exact Below.size (by assumption) | (simp; done) | omega | (simp; omega)) _))); have ⟨hc1, hf1⟩ := bcell g1; have z1q := g1.size; (try simp at z1q); (try have y1x : w33.heap.size < p1.heap.size := by omega); (try have y1x0 : p0.heap.size < p1.heap.size := by omega); have G01 := chain_step g1 (show Below p0.heap.size p0 _ by (repeat (first | exact Below.refl _ _ | assumption | refine Below.alloc ?_ (by first | exact Nat.le_refl _ | exact Below.size (by assumption) | (simp; done) | omega | (simp; omega)) _ | refine Below.setCell ?_ (by first | exact Nat.le_refl _ | exact Below.size (by assumption) | (simp; done) | omega | (simp; omega)) _))))
          | (go_at_call 47; refine (linSub_impl _ _ _ _ _ _ _ _ _ _ _ (r0.keep (B := p0.heap.size) (by (repeat (first | exact Below.refl _ _ | assumption | refine Below.alloc ?_ (by first | exact Nat.le_refl _ | exact Below.size (by assumption) | (simp; done) | omega | (simp; omega)) _ | refine Below.setCell ?_ (by first | exact Nat.le_refl _ | exact Below.size (by assumption) | (simp; done) | omega | (simp; omega)) _))) (Nat.le_refl _)) (Below.size (B := p0.heap.size) (by (repeat (first | exact Below.refl _ _ | assumption | refine Below.alloc ?_ (by first | exact Nat.le_refl _ | exact Below.size (by assumption) | (simp; done) | omega | (simp; omega)) _ | refine Below.setCell ?_ (by first | exact Nat.le_refl _ | exact Below.size (by assumption) | (simp; done) | omega | (simp; omega)) _)))) (r1.keep (B := p1.heap.size) (by (repeat (first | exact Below.refl _ _ | assumption | refine Below.alloc ?_ (by first | exact Nat.le_refl _ | exact Below.size (by assumption) | (simp; done) | omega | (simp; omega)) _ | refine Below.setCell ?_ (by first | exact Nat.le_refl _ | exact Below.size (by assumption) | (simp; done) | omega | (simp; omega)) _))) (Nat.le_refl _)) (Below.size (B := p1.heap.size) (by (repeat (first | exact Below.refl _ _ | assumption | refine Below.alloc ?_ (by first | exact Nat.le_refl _ | exact Below.size (by assumption) | (simp; done) | omega | (simp; omega)) _ | refine Below.setCell ?_ (by first | exact Nat.le_refl _ | exact Below.size (by assumption) | (simp; done) | omega | (simp; omega)) _))))).mono ?_; rintro e p2 ⟨q2, rfl, g2, r2⟩; obtain ⟨am2, km2, rfl, lm2, bm2⟩ := r2.shape; have G2 := chain_step g2 (show Below w33.drew.heap.size w33.drew _ by (repeat (first | exact Below.refl _ _ | assumption | refine Below.alloc ?_ (by first | exact Nat.le_refl _ | exact Below.size (by assumption) | (simp; done) | omega | (simp; omega)) _ | refine Below.setCell ?_ (by first | exact Nat.le_refl _ | exact Below.size (by assumption) | (simp; done) | omega | (simp; omega)) _))); have ⟨hc2, hf2⟩ := bcell g2))
      all_goals go_wp2_with fail
      all_goals go_meet
      all_goals (first | exact cutW_alloc d33 G2 r2 (by first | omega | (simp; done) | (simp; omega)) | exact cutW_set d33 G2 r2 (by first | omega | (simp; done) | (simp; omega)) (by first | omega | (simp; done) | (simp; omega)) (by simp (disch := first | omega | (simp; done) | (simp; omega)) [hc2, hc0, hc1]))
    case rest =>
      clear eBA eBB eA eB
      obtain ⟨g34, aH, kH, rfl, rfl, hg34, cH34, b034, tH34⟩ := hcut
      obtain ⟨w34, hw34⟩ : ∃ x, x = wc := ⟨_, rfl⟩
      subst hw34
      have b34 : Below w.heap.size w w34 := b33.trans (b034.mono (by omega))
      have z34 : w33.heap.size ≤ w34.heap.size := b034.size
      have lg34 : g34 < w34.heap.size := World.block_lt_of_cell? w34 _ cH34
      have cBA34 := cell_keep b034 cBA33
      have cBB34 := cell_keep b034 cBB33
      have cW34 := cell_keep b034 cW33
      have cXA34 := cell_keep b034 cXA33
      have cXB34 := cell_keep b034 cXB33
      have cG34 := cell_keep b034 cG33
      have tA34 := tA33.keep b034 (by omega)
      have tB34 := tB33.keep b034 (by omega)
      have tW34 := tW33.keep b034 (by omega)
      have tG34 := tG33.keep b034 (by omega)
      clear cBA33 cBB33 cW33 cXA33 cXB33 cG33 tA33 tB33 tW33 tG33
      obtain ⟨laH, baH⟩ : (lcomb 2147483646 tsA tsB).length ≤ kH ∧ kH ≤ 9223372036854775807 := by obtain ⟨_, _, e, h1, h2⟩ := tH34.shape; cases e; exact ⟨h1, h2⟩
      go_wp2_with fail
      refine name_call fun w35 hw35 => ?_
      have b35 : Below w.heap.size w w35 := by rw [hw35]; (repeat (first | exact Below.refl _ _ | assumption | refine Below.drew ?_ | refine bdrewN ?_ _ | refine Below.alloc ?_ (by first | exact Nat.le_refl _ | (simp; done) | omega | (simp; omega)) _ | refine Below.setCell ?_ (by first | exact Nat.le_refl _ | (simp; done) | omega | (simp; omega)) _))
      have z35 : w34.heap.size + 0 ≤ w35.heap.size := by rw [hw35]; simp
      have cBA35 : w35.cell? ⟨w.heap.size, 0, none⟩ = some (.slice aA tsA.length kA) := by rw [hw35]; first | exact cBA34 | exact cBA34
      have cBB35 : w35.cell? ⟨w.heap.size + 1, 0, none⟩ = some (.slice aB tsB.length kB) := by rw [hw35]; first | exact cBB34 | exact cBB34
      have cW35 : w35.cell? ⟨g6, 0, none⟩ = some (.slice aW (lcomb 2147483646 tsA tsB).length kW) := by rw [hw35]; first | exact cW34 | exact cW34
      have cXA35 : w35.cell? ⟨w8.heap.size, 0, none⟩ = some (.slice axA (tsA).length kxA) := by rw [hw35]; first | exact cXA34 | exact cXA34
      have cXB35 : w35.cell? ⟨w10.heap.size, 0, none⟩ = some (.slice axB (tsB).length kxB) := by rw [hw35]; first | exact cXB34 | exact cXB34
      have cG35 : w35.cell? ⟨w12.heap.size, 0, none⟩ = some (.slice aG (lcomb 2147483646 tsA tsB).length kG) := by rw [hw35]; first | exact cG34 | exact cG34
      have cH35 : w35.cell? ⟨g34, 0, none⟩ = some (.slice aH (lcomb 2147483646 tsA tsB).length kH) := by rw [hw35]; first | exact cH34 | exact cH34
      have tA35 := tA34.keep (show Below w34.heap.size w34 w35 by rw [hw35]; (repeat (first | exact Below.refl _ _ | assumption | refine Below.drew ?_ | refine bdrewN ?_ _ | refine Below.alloc ?_ (by first | exact Nat.le_refl _ | (simp; done) | omega | (simp; omega)) _ | refine Below.setCell ?_ (by first | exact Nat.le_refl _ | (simp; done) | omega | (simp; omega)) _))) (by omega)
      have tB35 := tB34.keep (show Below w34.heap.size w34 w35 by rw [hw35]; (repeat (first | exact Below.refl _ _ | assumption | refine Below.drew ?_ | refine bdrewN ?_ _ | refine Below.alloc ?_ (by first | exact Nat.le_refl _ | (simp; done) | omega | (simp; omega)) _ | refine Below.setCell ?_ (by first | exact Nat.le_refl _ | (simp; done) | omega | (simp; omega)) _))) (by omega)
      have tW35 := tW34.keep (show Below w34.heap.size w34 w35 by rw [hw35]; (repeat (first | exact Below.refl _ _ | assumption | refine Below.drew ?_ | refine bdrewN ?_ _ | refine Below.alloc ?_ (by first | exact Nat.le_refl _ | (simp; done) | omega | (simp; omega)) _ | refine Below.setCell ?_ (by first | exact Nat.le_refl _ | (simp; done) | omega | (simp; omega)) _))) (by omega)
      have tG35 := tG34.keep (show Below w34.heap.size w34 w35 by rw [hw35]; (repeat (first | exact Below.refl _ _ | assumption | refine Below.drew ?_ | refine bdrewN ?_ _ | refine Below.alloc ?_ (by first | exact Nat.le_refl _ | (simp; done) | omega | (simp; omega)) _ | refine Below.setCell ?_ (by first | exact Nat.le_refl _ | (simp; done) | omega | (simp; omega)) _))) (by omega)
      have tH35 := tH34.keep (show Below w34.heap.size w34 w35 by rw [hw35]; (repeat (first | exact Below.refl _ _ | assumption | refine Below.drew ?_ | refine bdrewN ?_ _ | refine Below.alloc ?_ (by first | exact Nat.le_refl _ | (simp; done) | omega | (simp; omega)) _ | refine Below.setCell ?_ (by first | exact Nat.le_refl _ | (simp; done) | omega | (simp; omega)) _))) (by omega)
      clear hw35
      clear cBA34 cBB34 cW34 cXA34 cXB34 cG34 cH34 tA34 tB34 tW34 tG34 tH34
      refine (eqLin_any _ _ _ _ _ _ _ _ _ _ _ tH35 tW35 (by omega) (by omega)).mono ?_; rw [dec_self]; rintro e w36 ⟨rfl, f36⟩
      have b36 := b35.trans (f36.mono (by omega))
      have z36 := f36.size
      have cBA36 := cell_keep f36 cBA35
      have cBB36 := cell_keep f36 cBB35
      have cW36 := cell_keep f36 cW35
      have cXA36 := cell_keep f36 cXA35
      have cXB36 := cell_keep f36 cXB35
      have cG36 := cell_keep f36 cG35
      have cH36 := cell_keep f36 cH35
      have tA36 := tA35.keep f36 (by omega)
      have tB36 := tB35.keep f36 (by omega)
      have tW36 := tW35.keep f36 (by omega)
      have tG36 := tG35.keep f36 (by omega)
      have tH36 := tH35.keep f36 (by omega)
      clear cBA35 cBB35 cW35 cXA35 cXB35 cG35 cH35 tA35 tB35 tW35 tG35 tH35
      go_wp2_with fail
      refine name_call fun w37 hw37 => ?_
      have b37 : Below w.heap.size w w37 := by rw [hw37]; (repeat (first | exact Below.refl _ _ | assumption | refine Below.drew ?_ | refine bdrewN ?_ _ | refine Below.alloc ?_ (by first | exact Nat.le_refl _ | (simp; done) | omega | (simp; omega)) _ | refine Below.setCell ?_ (by first | exact Nat.le_refl _ | (simp; done) | omega | (simp; omega)) _))
      have z37 : w36.heap.size + 0 ≤ w37.heap.size := by rw [hw37]; simp
      have cBA37 : w37.cell? ⟨w.heap.size, 0, none⟩ = some (.slice aA tsA.length kA) := by rw [hw37]; first | exact cBA36 | exact cBA36
      have cBB37 : w37.cell? ⟨w.heap.size + 1, 0, none⟩ = some (.slice aB tsB.length kB) := by rw [hw37]; first | exact cBB36 | exact cBB36
      have cW37 : w37.cell? ⟨g6, 0, none⟩ = some (.slice aW (lcomb 2147483646 tsA tsB).length kW) := by rw [hw37]; first | exact cW36 | exact cW36
      have cXA37 : w37.cell? ⟨w8.heap.size, 0, none⟩ = some (.slice axA (tsA).length kxA) := by rw [hw37]; first | exact cXA36 | exact cXA36
      have cXB37 : w37.cell? ⟨w10.heap.size, 0, none⟩ = some (.slice axB (tsB).length kxB) := by rw [hw37]; first | exact cXB36 | exact cXB36
      have cG37 : w37.cell? ⟨w12.heap.size, 0, none⟩ = some (.slice aG (lcomb 2147483646 tsA tsB).length kG) := by rw [hw37]; first | exact cG36 | exact cG36
      have cH37 : w37.cell? ⟨g34, 0, none⟩ = some (.slice aH (lcomb 2147483646 tsA tsB).length kH) := by rw [hw37]; first | exact cH36 | exact cH36
      have tA37 := tA36.keep (show Below w36.heap.size w36 w37 by rw [hw37]; (repeat (first | exact Below.refl _ _ | assumption | refine Below.drew ?_ | refine bdrewN ?_ _ | refine Below.alloc ?_ (by first | exact Nat.le_refl _ | (simp; done) | omega | (simp; omega)) _ | refine Below.setCell ?_ (by first | exact Nat.le_refl _ | (simp; done) | omega | (simp; omega)) _))) (by omega)
      have tB37 := tB36.keep (show Below w36.heap.size w36 w37 by rw [hw37]; (repeat (first | exact Below.refl _ _ | assumption | refine Below.drew ?_ | refine bdrewN ?_ _ | refine Below.alloc ?_ (by first | exact Nat.le_refl _ | (simp; done) | omega | (simp; omega)) _ | refine Below.setCell ?_ (by first | exact Nat.le_refl _ | (simp; done) | omega | (simp; omega)) _))) (by omega)
      have tW37 := tW36.keep (show Below w36.heap.size w36 w37 by rw [hw37]; (repeat (first | exact Below.refl _ _ | assumption | refine Below.drew ?_ | refine bdrewN ?_ _ | refine Below.alloc ?_ (by first | exact Nat.le_refl _ | (simp; done) | omega | (simp; omega)) _ | refine Below.setCell ?_ (by first | exact Nat.le_refl _ | (simp; done) | omega | (simp; omega)) _))) (by omega)
      have tG37 := tG36.keep (show Below w36.heap.size w36 w37 by rw [hw37]; (repeat (first | exact Below.refl _ _ | assumption | refine Below.drew ?_ | refine bdrewN ?_ _ | refine Below.alloc ?_ (by first | exact Nat.le_refl _ | (simp; done) | omega | (simp; omega)) _ | refine Below.setCell ?_ (by first | exact Nat.le_refl _ | (simp; done) | omega | (simp; omega)) _))) (by omega)
      have tH37 := tH36.keep (show Below w36.heap.size w36 w37 by rw [hw37]; (repeat (first | exact Below.refl _ _ | assumption | refine Below.drew ?_ | refine bdrewN ?_ _ | refine Below.alloc ?_ (by first | exact Nat.le_refl _ | (simp; done) | omega | (simp; omega)) _ | refine Below.setCell ?_ (by first | exact Nat.le_refl _ | (simp; done) | omega | (simp; omega)) _))) (by omega)
      clear hw37
      clear cBA36 cBB36 cW36 cXA36 cXB36 cG36 cH36 tA36 tB36 tW36 tG36 tH36
      refine (heldLin_any _ _ _ _ _ 1 _ tG37 (by omega) (by omega) (by omega)).mono ?_; rintro e w38 ⟨rfl, f38⟩
      have b38 := b37.trans (f38.mono (by omega))
      have z38 := f38.size
      have cBA38 := cell_keep f38 cBA37
      have cBB38 := cell_keep f38 cBB37
      have cW38 := cell_keep f38 cW37
      have cXA38 := cell_keep f38 cXA37
      have cXB38 := cell_keep f38 cXB37
      have cG38 := cell_keep f38 cG37
      have cH38 := cell_keep f38 cH37
      have tA38 := tA37.keep f38 (by omega)
      have tB38 := tB37.keep f38 (by omega)
      have tW38 := tW37.keep f38 (by omega)
      have tG38 := tG37.keep f38 (by omega)
      have tH38 := tH37.keep f38 (by omega)
      clear cBA37 cBB37 cW37 cXA37 cXB37 cG37 cH37 tA37 tB37 tW37 tG37 tH37
      go_wp2_with fail
      go_ret
      exact ⟨rfl, b38⟩
end Go.Proofs.Ytpobbdibkhledaa.L
