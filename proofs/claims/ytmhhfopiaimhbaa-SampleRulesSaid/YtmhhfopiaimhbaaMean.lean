/-
  The contracts of Mean and Ways.
-/
import Derived.Test.YtmhhfopiaimhbaaChance
namespace Go.Proofs.Ytmhhfopiaimhbaa
open Go.RowKit Go.Shelf

namespace Pure
/-- How many dirty bags all sets of o bags have together. -/
def total (b d o : Int) : Int := sum b d o (fun j => j)
theorem total_nonneg {b d o : Int} : 0 ≤ total b d o := sumTo_nonneg (n := (o + 1).toNat) (fun j _ => by omega) _ (Nat.le_refl _)
theorem mul_le36 {x j : Int} (h0 : 0 ≤ x) (h : x ≤ 68719476736) (hj : j ≤ 36) : x * j ≤ 2473901162496 := by
  have h1 := Int.mul_le_mul_of_nonneg_left hj h0
  omega
theorem total_le {b d o : Int} (hb : b ≤ 36) (ho : o ≤ 36) : total b d o ≤ 91534343012352 := by
  have h := sumTo_le (b := b) (d := d) (o := o) (f := fun j => j) (n := (o + 1).toNat) (B := 2473901162496) (fun j hj => mul_le36 (ways_nonneg b d o j) (ways_le hb) (by omega)) _ (Nat.le_refl _)
  unfold total sum
  omega
end Pure

namespace Pure
def okWays (n k : Int) : Bool := decide (0 ≤ n ∧ n ≤ 36 ∧ 0 ≤ k ∧ k ≤ n)
/-- A number with an error: without one if the code is 0. -/
def resI (code : Int) (v : Int) : Value := if code = 0 then .tuple #[.int .i64 v, .int .i64 0] else .tuple #[.int .i64 0, .int .i64 code]
theorem resI_zero {code : Int} (h : code = 0) (v : Int) : resI code v = .tuple #[.int .i64 v, .int .i64 0] := by unfold resI; rw [if_pos h]
theorem resI_err {code : Int} (h : code ≠ 0) (v : Int) : resI code v = .tuple #[.int .i64 0, .int .i64 code] := by unfold resI; rw [if_neg h]
end Pure

end Go.Proofs.Ytmhhfopiaimhbaa
