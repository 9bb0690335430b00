/- The builder's mux and xor (written by tools/gen/gates.py). -/
import Derived.Test.YtcenijdaacbgpaaBOps
namespace Go.Proofs.Ytcenijdaacbgpaa.L
open Go.RowKit Go.Proofs.Ytcenijdaacbgpaa.S
set_option linter.unusedVariables false
set_option linter.unusedSimpArgs false

theorem cell_oth {w : World} {b j c i : Nat} {x u : Value} (hne : b ≠ c) (h : w.cell? ⟨c, i, none⟩ = some x) : (w.setCell ⟨b, j, none⟩ u).cell? ⟨c, i, none⟩ = some x :=
  (World.cell?_setCell_other _ _ _ _ (fun e => hne (congrArg Addr.block e))).trans h
def muxB (s : SysC) (b : Bd) (z x y : List T) : Bd := mulB s b z (lcomb 2147483646 x y)
def muxBZ (s : SysC) (b : Bd) (y : List T) : List T := lcomb 1 y (bVar s b)
def xorB (s : SysC) (b : Bd) (x y : List T) : Bd := mulB s b x y
def xorBZ (s : SysC) (b : Bd) (x y : List T) : List T := lcomb 2147483646 (lcomb 1 x y) (lcomb 2 [] (bVar s b))
end Go.Proofs.Ytcenijdaacbgpaa.L
