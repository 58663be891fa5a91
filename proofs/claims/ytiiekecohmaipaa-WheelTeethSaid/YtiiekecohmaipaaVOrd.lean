/-
  The contracts of IndexFunc and ContainsFunc over slices of stampers.
-/
import Derived.Test.YtiiekecohmaipaaVBase
namespace Go.Proofs.Ytiiekecohmaipaa
open Go.RowKit

end Go.Proofs.Ytiiekecohmaipaa
