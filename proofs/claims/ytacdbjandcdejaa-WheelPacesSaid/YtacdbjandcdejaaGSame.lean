/-
  The contracts of the specification's Hunts, Again, TwinWheels, GreatWheels, SameWheels and SameTrains.
-/
import Derived.Test.YtacdbjandcdejaaGRef
namespace Go.Proofs.Ytacdbjandcdejaa
open Go.RowKit

theorem Pure.huntsB_succ (F : Nat → Int) (k : Nat) (L : Nat → Int) : huntsB F (k + 1) L = (huntsB F k L && (((Nat.gcd (tooth F (L (k * 2))) (tooth F (L (k * 2 + 1))) : Nat) : Int) == 1)) := by
  unfold huntsB
  rw [List.range_succ, List.any_append]
  simp [Bool.not_or]
theorem Pure.huntsB_zero (F L : Nat → Int) : huntsB F 0 L = true := rfl
end Go.Proofs.Ytacdbjandcdejaa
