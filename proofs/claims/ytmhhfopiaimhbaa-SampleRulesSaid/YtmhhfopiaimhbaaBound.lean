/-
  The contract of bound.
-/
import Derived.Test.YtmhhfopiaimhbaaSpan
import Derived.Test.YtmhhfopiaimhbaaReach
import Derived.Test.YtmhhfopiaimhbaaUpTo
import Derived.Maps.OwnIn
import Derived.Shelf.RegionOpen
import Derived.BigRegionIn
import Derived.Sort.CutIn
namespace Go.Proofs.Ytmhhfopiaimhbaa
open Go.RowKit Go.Shelf
attribute [local go_sem] Oper.semAt_some

namespace Pure
/-- Whether at most so many are dirty with at least a chance p/q. -/
def okBound (b o f p q x : Int) : Bool := decide (p * sets b o ≤ few b x o f * q)
def bound (b : Nat) (lo hi o f p q : Int) : Option Int := lastOf (okBound b o f p q) (nums b lo hi o f)
end Pure

end Go.Proofs.Ytmhhfopiaimhbaa
