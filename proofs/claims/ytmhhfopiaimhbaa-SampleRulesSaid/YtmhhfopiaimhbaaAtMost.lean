/-
  The contract of AtMost.
-/
import Derived.Test.YtmhhfopiaimhbaaChance
namespace Go.Proofs.Ytmhhfopiaimhbaa
open Go.RowKit Go.Shelf

/-- A cell behind two stores into another block. -/
theorem far2 {w : World} {n : Nat} {a : Addr} {u x y : Value} (hne : n ≠ a.block) (h : w.cell? a = some u) : ((w.setCell ⟨n, 0, none⟩ x).setCell ⟨n, 1, none⟩ y).cell? a = some u :=
  (World.cell?_setCell_far _ _ _ _ hne).trans ((World.cell?_setCell_far _ _ _ _ hne).trans h)

end Go.Proofs.Ytmhhfopiaimhbaa
