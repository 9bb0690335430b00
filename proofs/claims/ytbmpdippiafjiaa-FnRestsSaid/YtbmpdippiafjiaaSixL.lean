/- FnSixes: characters and their indices correspond one to one. -/
import Derived.Test.YtbmpdippiafjiaaRow
import Derived.Test.YtbmpdippiafjiaaSix
namespace Go.Proofs.Ytbmpdippiafjiaa.L
open Go.RowKit Go.Proofs.Ytbmpdippiafjiaa.S
set_option linter.unusedVariables false
theorem Row.wide {B B' : Nat} {w : World} {a : Option Addr} {len : Nat} (h : Row B w a len) (hb : B ≤ B') : Row B' w a len := by
  obtain ⟨h1, h2⟩ := h
  refine ⟨h1, ?_⟩
  rcases h2 with h2 | ⟨b, off, e, hl, hc⟩
  · exact .inl h2
  · exact .inr ⟨b, off, e, by omega, hc⟩
theorem six_66 : six 66 = 1 := by kernel_rfl
theorem chr_63 : chr 63 = 47 := by kernel_rfl
end Go.Proofs.Ytbmpdippiafjiaa.L
