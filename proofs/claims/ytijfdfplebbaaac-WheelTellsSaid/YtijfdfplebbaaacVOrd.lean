/-
  The contracts of IndexFunc and ContainsFunc over slices of stampers.
-/
import Derived.Test.YtijfdfplebbaaacVBase
namespace Go.Proofs.Ytijfdfplebbaaac
open Go.RowKit

end Go.Proofs.Ytijfdfplebbaaac
