/-
  The contracts of firstError at two codes, and of valid.
-/
import Derived.Test.YtacdbjandcdejaaPCopied
namespace Go.Proofs.Ytacdbjandcdejaa
open Go.RowKit

/-- No plan. -/
abbrev noPlan : PlanX := ⟨0, none, 0, 0, 0, 0, none, 0, 0, none, 0, 0, 0⟩
end Go.Proofs.Ytacdbjandcdejaa
