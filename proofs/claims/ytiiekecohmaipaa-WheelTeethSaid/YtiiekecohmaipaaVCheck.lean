/-
  The contracts of what a shaft is asked, and of Sound.
-/
import Derived.Test.YtiiekecohmaipaaVOrd
import Derived.Test.YtiiekecohmaipaaRest
namespace Go.Proofs.Ytiiekecohmaipaa
open Go.RowKit

namespace Pure
def marksB (m : Int) (n : Nat) : Bool := decide (1 ≤ m ∧ m ≤ 12) && decide ((n : Int) ≤ 4)
def camBad (m c u : Int) : Bool := decide (c < 1) || (!decide (m % c = 0) || !decide (1 ≤ u ∧ u ≤ m / c - 1))
def poundBad (p : Int) : Bool := !decide (1 ≤ p ∧ p ≤ 500)
def camsB (m : Int) (n : Nat) (F : Nat → Int) : Bool := !(List.range n).any (fun j => camBad m (F (j * 3)) (F (j * 3 + 1)))
def poundsB (n : Nat) (F : Nat → Int) : Bool := !(List.range n).any (fun j => poundBad (F (j * 3 + 2)))
def shaft (m : Int) (n : Nat) (F : Nat → Int) : Bool := marksB m n && camsB m n F && poundsB n F
theorem tmod_nn {m c : Int} (h : 1 ≤ m) : Int.tmod m c = m % c := Int.tmod_eq_emod_of_nonneg (by omega)
theorem tdiv_nn {m c : Int} (h : 1 ≤ m) : Int.tdiv m c = m / c := Int.tdiv_eq_ediv_of_nonneg (by omega)
theorem ediv_le {m c : Int} (h : 1 ≤ m) (hc : 1 ≤ c) : 0 ≤ m / c ∧ m / c ≤ m := ⟨Int.ediv_nonneg (by omega) (by omega), Int.ediv_le_self c (by omega)⟩
theorem emod_le {m c : Int} (h : 1 ≤ m) (hc : 1 ≤ c) : 0 ≤ m % c ∧ m % c ≤ m := ⟨Int.emod_nonneg m (by omega), by
  have := Int.emod_add_mul_ediv m c
  have h1 := (ediv_le h hc).1
  have h2 : 0 ≤ c * (m / c) := Int.mul_nonneg (by omega) h1
  omega⟩
end Pure

end Go.Proofs.Ytiiekecohmaipaa
