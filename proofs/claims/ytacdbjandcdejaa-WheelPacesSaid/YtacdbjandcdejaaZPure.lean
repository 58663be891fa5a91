/-
  What water, and the turns that it is enough for, are.
-/
import Derived.Test.YtacdbjandcdejaaGRef
import Derived.Test.YtacdbjandcdejaaPRef
import Derived.Test.YtacdbjandcdejaaPSame
namespace Go.Proofs.Ytacdbjandcdejaa
open Go.RowKit

namespace Pure
/-- Water for each day, and blows to a turn, as they must be. -/
def waterB (n m : Nat) (F : Nat → Int) (b : Int) : Bool := (((m : Int) == (n : Int)) && inSpan 0 100000 m F) && decide (1 ≤ b ∧ b ≤ 10000)
/-- The turns that water is enough for. -/
def turnV (x : Int) (p q : Nat) (b : Int) : Int := Int.tdiv (Int.tdiv (x * (p : Int)) (q : Int)) b
theorem turn_facts {x b : Int} {p q : Nat} (hx : 0 ≤ x ∧ x ≤ 100000) (hp : p ≤ 2000000) (hq : 1 ≤ q) (hb : 1 ≤ b) : IntKind.i64.wrap (x * (p : Int)) = x * (p : Int) ∧ ¬ (q : Int) = 0 ∧ ¬ b = 0 ∧ IntKind.i64.wrap (Int.tdiv (x * (p : Int)) (q : Int)) = Int.tdiv (x * (p : Int)) (q : Int) ∧ IntKind.i64.wrap (turnV x p q b) = turnV x p q b ∧ 0 ≤ turnV x p q b ∧ turnV x p q b ≤ 200000000000 := by
  have h0 : 0 ≤ x * (p : Int) := Int.mul_nonneg hx.1 (by omega)
  have h1 : x * (p : Int) ≤ 100000 * 2000000 := Int.mul_le_mul hx.2 (by omega) (by omega) (by omega)
  have h2 : Int.tdiv (x * (p : Int)) (q : Int) = x * (p : Int) / (q : Int) := Int.tdiv_eq_ediv_of_nonneg h0
  have h3 : 0 ≤ x * (p : Int) / (q : Int) := Int.ediv_nonneg h0 (by omega)
  have h4 : x * (p : Int) / (q : Int) ≤ x * (p : Int) := Int.ediv_le_self _ h0
  have h5 : turnV x p q b = x * (p : Int) / (q : Int) / b := by
    unfold turnV
    rw [h2]
    exact Int.tdiv_eq_ediv_of_nonneg h3
  have h6 : 0 ≤ x * (p : Int) / (q : Int) / b := Int.ediv_nonneg h3 (by omega)
  have h7 : x * (p : Int) / (q : Int) / b ≤ x * (p : Int) / (q : Int) := Int.ediv_le_self _ h3
  rw [h5, h2]
  exact ⟨IntWalk.i64_in _ (by omega), by omega, by omega, IntWalk.i64_in _ (by omega), IntWalk.i64_in _ (by omega), h6, by omega⟩
theorem waterB_iff {n m : Nat} {F : Nat → Int} {b : Int} : waterB n m F b = true ↔ m = n ∧ (∀ j, j < m → 0 ≤ F j ∧ F j ≤ 100000) ∧ 1 ≤ b ∧ b ≤ 10000 := by
  unfold waterB inSpan
  simp only [Bool.and_eq_true, decide_eq_true_eq, beq_iff_eq]
  constructor
  · rintro ⟨⟨h1, h2⟩, h3⟩
    exact ⟨by omega, h2, h3⟩
  · rintro ⟨h1, h2, h3⟩
    exact ⟨⟨by omega, h2⟩, h3⟩
theorem waterB_no {n m : Nat} {F : Nat → Int} {b : Int} (h : ¬ (m = n ∧ (∀ j, j < m → 0 ≤ F j ∧ F j ≤ 100000) ∧ 1 ≤ b ∧ b ≤ 10000)) : waterB n m F b = false := by
  cases hv : waterB n m F b
  · rfl
  · exact absurd (waterB_iff.1 hv) h
end Pure

end Go.Proofs.Ytacdbjandcdejaa
