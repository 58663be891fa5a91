/-
  The contracts of the specification's own functions, first part: numbers in spans, sets, fractions.
  The contracts of the specification's own functions, second part: ways, chances, fractions.
-/
import Derived.Test.YtjegkkpdemoldaaGreatDoorMean

namespace Go.Proofs.YtjegkkpdemoldaaGreatDoor
open Go.RowKit Go.Shelf

namespace Pure
/-- One factor more. -/
theorem choose_step (a j : Nat) : (ch (a + j) j * ((a : Int) + (j + 1))) / ((j : Int) + 1) = ch (a + (j + 1)) (j + 1) := by
  rw [show a + (j + 1) = a + j + 1 from rfl, show (a : Int) + (j + 1) = (a : Int) + j + 1 by omega]
  have h := ch_absorb (a + j) j
  have e : ((ch (a + j) j : Nat) : Int) * ((a : Int) + j + 1) = ((j : Int) + 1) * ((ch (a + j + 1) (j + 1) : Nat) : Int) := by
    have h2 : (((j + 1) * ch (a + j + 1) (j + 1) : Nat) : Int) = (((a + j + 1) * ch (a + j) j : Nat) : Int) := by rw [h]
    simp only [Int.natCast_mul, Int.natCast_add] at h2
    rw [Int.mul_comm]
    simpa using h2.symm
  rw [e, Int.mul_ediv_cancel_left _ (by omega)]
end Pure

end Go.Proofs.YtjegkkpdemoldaaGreatDoor

namespace Go.Proofs.YtjegkkpdemoldaaGreatDoor
open Go.RowKit Go.Shelf

namespace Pure
/-- How many sets have at most m dirty bags, counted up to m. -/
def fewTo (b d o : Int) : Nat → Int
  | 0 => 0
  | k + 1 => fewTo b d o k + ways b d o k
theorem fewTo_succ (b d o : Int) (k : Nat) : fewTo b d o (k + 1) = fewTo b d o k + ways b d o k := rfl
theorem fewTo_nonneg (b d o : Int) : ∀ k : Nat, 0 ≤ fewTo b d o k
  | 0 => Int.le_refl _
  | k + 1 => by
    rw [fewTo_succ]
    have := fewTo_nonneg b d o k
    have := ways_nonneg b d o k
    omega
theorem fewTo_le (b d o : Int) (hb : b ≤ 36) : ∀ k : Nat, fewTo b d o k ≤ k * 68719476736
  | 0 => by simp [fewTo]
  | k + 1 => by
    rw [fewTo_succ]
    have := fewTo_le b d o hb k
    have := ways_le (d := d) (o := o) (f := k) hb
    omega
theorem sumTo_ind (b d o m : Int) : ∀ k : Nat, (k : Int) ≤ m + 1 → sumTo b d o (ind m) k = fewTo b d o k
  | 0, _ => rfl
  | k + 1, h => by
    rw [sumTo_succ, fewTo_succ, sumTo_ind b d o m k (by omega), ind_le (by omega), Int.mul_one]
theorem sumTo_ind_more (b d o m : Int) (n : Nat) (hn : (n : Int) = m + 1) : ∀ k : Nat, n ≤ k → sumTo b d o (ind m) k = fewTo b d o n
  | 0, h => by obtain rfl : n = 0 := by omega
               rfl
  | k + 1, h => by
    by_cases e : n = k + 1
    · rw [e]; exact sumTo_ind b d o m (k + 1) (by omega)
    · rw [sumTo_succ, sumTo_ind_more b d o m n hn k (by omega), ind_gt (by omega)]
      simp
theorem few_eq {b d o m : Int} (h0 : 0 ≤ m) (h1 : m ≤ o) : few b d o m = fewTo b d o (m + 1).toNat :=
  sumTo_ind_more b d o m (m + 1).toNat (by omega) _ (by omega)
end Pure

namespace Pure
theorem first3_true {a b c : Bool} (x y z : Int) (ha : a = true) (hb : b = true) (hc : c = true) : first3 (err a x) (err b y) (err c z) = 0 := by
  subst ha; subst hb; subst hc
  rfl
theorem first3_1 {b c : Bool} {x : Int} (y z : Int) (hx : x ≠ 0) : first3 (err false x) (err b y) (err c z) = x := by
  unfold first3
  simp [err_false, hx]
theorem first3_2 {c : Bool} {y : Int} (x z : Int) (hy : y ≠ 0) : first3 (err true x) (err false y) (err c z) = y := by
  unfold first3
  simp [err_false, err_true, hy]
theorem first3_3 {z : Int} (x y : Int) (hz : z ≠ 0) : first3 (err true x) (err true y) (err false z) = z := by
  unfold first3
  simp [err_false, err_true, hz]
end Pure

end Go.Proofs.YtjegkkpdemoldaaGreatDoor
