/- The model's l4bool, l4eq, l4mux, l4xor (written by tools/gen/mgates.py). -/
import Derived.Test.YtcenijdaacbgpaaB15
import Derived.Test.YtcenijdaacbgpaaB17
namespace Go.Proofs.Ytcenijdaacbgpaa.L
open Go.RowKit Go.Proofs.Ytcenijdaacbgpaa.S
set_option linter.unusedVariables false
set_option linter.unusedSimpArgs false

theorem cell_otm {w : World} {b j c i : Nat} {x u : Value} (hne : b ≠ c) (h : w.cell? ⟨c, i, none⟩ = some x) : (w.setCell ⟨b, j, none⟩ u).cell? ⟨c, i, none⟩ = some x :=
  (World.cell?_setCell_other _ _ _ _ (fun e => hne (congrArg Addr.block e))).trans h
theorem Terms.toG {o : Bool} {l h : Nat} {w : World} {v : Value} {ts : List T} (t : Terms o l h w v ts) : TermsF o (fun k => l ≤ k ∧ k < h) w v ts := ⟨l, h, fun k a b => ⟨a, b⟩, t⟩
theorem KIn.const1 : KIn (constOf 1) := by unfold constOf; split; exact KIn.nil; exact KIn.one (by omega) (by omega)
theorem KIn.sVar (t : SysC) : KIn (sVar t) := KIn.one (by omega) (by omega)
def muxS (t : SysC) (z x y : List T) : SysC := mulS t z (mrg 2147483646 x y)
def muxZ (t : SysC) (y : List T) : List T := mrg 1 y (sVar t)
def xorZ (t : SysC) (x y : List T) : List T := mrg 2147483645 (mrg 1 x y) (sVar t)

end Go.Proofs.Ytcenijdaacbgpaa.L
