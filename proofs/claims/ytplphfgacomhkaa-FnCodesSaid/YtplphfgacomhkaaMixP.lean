/- Steps of the mix on numbers: what they are. -/
import Derived.Test.YtplphfgacomhkaaRot
namespace Go.Proofs.Ytplphfgacomhkaa.L
open Go.RowKit Go.Proofs.Ytplphfgacomhkaa.S
set_option linter.unusedVariables false
set_option linter.unusedSimpArgs false

def isB (x : Int) : Prop := 0 ≤ x ∧ x ≤ 255
instance (x : Int) : Decidable (isB x) := by unfold isB; infer_instance
def allB (xs : List Int) : Bool := decide (∀ x ∈ xs, isB x)
def sm (a b : Int) : Int := bits BinOp.and IntKind.i64 (a + b) 255
def xr (a b : Int) : Int := bits BinOp.xor IntKind.i64 a b
theorem sm_facts : ((List.range 511).all fun n => decide (0 ≤ bits BinOp.and IntKind.i64 (n : Int) 255 ∧ bits BinOp.and IntKind.i64 (n : Int) 255 ≤ 255 ∧ Int.tmod (n : Int) 256 = bits BinOp.and IntKind.i64 (n : Int) 255)) = true := by kernel_rfl
theorem sm_at {a b : Int} (ha : isB a) (hb : isB b) : isB (sm a b) ∧ Int.tmod (a + b) 256 = sm a b := by
  have h := sm_facts
  obtain ⟨a0, a1⟩ := ha
  obtain ⟨b0, b1⟩ := hb
  simp only [List.all_eq_true, List.mem_range, decide_eq_true_eq] at h
  have := h (a + b).toNat (by omega)
  rw [show (((a + b).toNat : Nat) : Int) = a + b from by omega] at this
  exact ⟨⟨this.1, this.2.1⟩, this.2.2⟩
theorem xr_facts : ((List.range 256).all fun a => (List.range 256).all fun b => decide (0 ≤ xr a b ∧ xr a b ≤ 255)) = true := by kernel_rfl
theorem xr_at {a b : Int} (ha : isB a) (hb : isB b) : isB (xr a b) := by
  have h := xr_facts
  obtain ⟨a0, a1⟩ := ha
  obtain ⟨b0, b1⟩ := hb
  simp only [List.all_eq_true, List.mem_range, decide_eq_true_eq] at h
  have := h a.toNat (by omega) b.toNat (by omega)
  rw [show ((a.toNat : Nat) : Int) = a from by omega, show ((b.toNat : Nat) : Int) = b from by omega] at this
  exact this
theorem rotV_B {x k : Int} (hx : isB x) (k0 : 0 ≤ k) (k1 : k ≤ 8) : isB (rotV x k) := by
  obtain ⟨h1, h2, -⟩ := rot_at hx.1 hx.2 k0 k1
  exact ⟨h1, h2⟩
/-- The step: b, c, d, a. -/
def stA (h0 m : Int) : Int := sm h0 m
def stD (h0 h3 m : Int) : Int := rotV (xr h3 (stA h0 m)) 3
def stC (h0 h2 h3 m : Int) : Int := sm h2 (stD h0 h3 m)
def stB (h0 h1 h2 h3 m : Int) : Int := rotV (xr h1 (stC h0 h2 h3 m)) 5
def stepL (h : List Int) (m : Int) : List Int := match h with
  | [h0, h1, h2, h3] => [stB h0 h1 h2 h3 m, stC h0 h2 h3 m, stD h0 h3 m, stA h0 m]
  | _ => []
section
variable {h0 h1 h2 h3 m : Int} (b0 : isB h0) (b1 : isB h1) (b2 : isB h2) (b3 : isB h3) (bm : isB m)
include b0 bm in
theorem stA_B : isB (stA h0 m) := (sm_at b0 bm).1
include b0 b3 bm in
theorem stD_B : isB (stD h0 h3 m) := rotV_B (xr_at b3 (stA_B b0 bm)) (by omega) (by omega)
include b0 b2 b3 bm in
theorem stC_B : isB (stC h0 h2 h3 m) := (sm_at b2 (stD_B b0 b3 bm)).1
include b0 b1 b2 b3 bm in
theorem stB_B : isB (stB h0 h1 h2 h3 m) := rotV_B (xr_at b1 (stC_B b0 b2 b3 bm)) (by omega) (by omega)
end

end Go.Proofs.Ytplphfgacomhkaa.L
