/-
  The contracts of the specification's own Chance, AtMost and Mean.
-/
import Derived.Test.YtjegkkpdemoldaaGreatDoorRefB
namespace Go.Proofs.YtjegkkpdemoldaaGreatDoor
open Go.RowKit Go.Shelf

theorem among_below {W : World} {a : Addr} {v : Value} (h : W.cell? a = some v) (x : Among (Below W.heap.size W)) : x.val.cell? a = some v := below_cell x.ok h

end Go.Proofs.YtjegkkpdemoldaaGreatDoor
