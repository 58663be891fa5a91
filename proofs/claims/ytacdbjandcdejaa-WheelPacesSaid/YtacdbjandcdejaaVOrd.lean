/-
  The contracts of IndexFunc and ContainsFunc over slices of stampers.
-/
import Derived.Test.YtacdbjandcdejaaVBase
namespace Go.Proofs.Ytacdbjandcdejaa
open Go.RowKit

end Go.Proofs.Ytacdbjandcdejaa
