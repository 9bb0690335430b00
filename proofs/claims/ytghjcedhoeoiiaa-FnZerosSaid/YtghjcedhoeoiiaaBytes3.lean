/- Hints and constraints as bytes: the program's functions. -/
import Derived.Test.YtghjcedhoeoiiaaBytes2
namespace Go.Proofs.Ytghjcedhoeoiiaa.L
open Go.RowKit Go.Proofs.Ytghjcedhoeoiiaa.S
set_option linter.unusedVariables false
set_option linter.unusedSimpArgs false

def hintBytes (x : HintC) : List Int := [x.kind] ++ linBytes x.a ++ linBytes x.b ++ num4 x.k
def conBytes (c : ConC) : List Int := linBytes c.a ++ linBytes c.b ++ linBytes c.c
theorem linBytes_length (ts : List T) : (linBytes ts).length = 4 + 8 * ts.length := by unfold linBytes; rw [List.length_append, num4_length, termsBytes_length]

end Go.Proofs.Ytghjcedhoeoiiaa.L
