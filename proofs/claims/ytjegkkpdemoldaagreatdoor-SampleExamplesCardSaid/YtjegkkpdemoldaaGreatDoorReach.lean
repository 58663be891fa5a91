/-
  The contracts of reaches and not, and comparisons of fractions in lowest terms.
-/
import Derived.Test.YtjegkkpdemoldaaGreatDoorWithin
import Derived.Deep.QuietTactic
namespace Go.Proofs.YtjegkkpdemoldaaGreatDoor
open Go.RowKit

namespace Pure
theorem gcd_dvd_left {n d : Int} (hn : 0 ≤ n) : gcd n d ∣ n := by
  unfold gcd
  have h := Int.natCast_dvd_natCast.2 (Nat.gcd_dvd_left n.toNat d.toNat)
  rwa [Int.toNat_of_nonneg hn] at h
theorem gcd_dvd_right {n d : Int} (hd : 0 ≤ d) : gcd n d ∣ d := by
  unfold gcd
  have h := Int.natCast_dvd_natCast.2 (Nat.gcd_dvd_right n.toNat d.toNat)
  rwa [Int.toNat_of_nonneg hd] at h
/-- A fraction in lowest terms is at least another one just if it is so before. -/
theorem low_ge {n d p q : Int} (hn : 0 ≤ n) (hd : 0 < d) : p * (d / gcd n d) ≤ n / gcd n d * q ↔ p * d ≤ n * q := by
  have hg := gcd_pos (a := n) hd
  obtain ⟨x, hx⟩ := gcd_dvd_left (n := n) (d := d) hn
  obtain ⟨y, hy⟩ := gcd_dvd_right (n := n) (d := d) (by omega)
  generalize gcd n d = g at *
  subst hx
  subst hy
  rw [Int.mul_ediv_cancel_left _ (by omega), Int.mul_ediv_cancel_left _ (by omega), show p * (g * y) = g * (p * y) by rw [Int.mul_left_comm], show g * x * q = g * (x * q) by rw [Int.mul_assoc]]
  exact (Int.mul_le_mul_left hg).symm
theorem low_le {n d p q : Int} (hn : 0 ≤ n) (hd : 0 < d) : n / gcd n d * q ≤ p * (d / gcd n d) ↔ n * q ≤ p * d := by
  have hg := gcd_pos (a := n) hd
  obtain ⟨x, hx⟩ := gcd_dvd_left (n := n) (d := d) hn
  obtain ⟨y, hy⟩ := gcd_dvd_right (n := n) (d := d) (by omega)
  generalize gcd n d = g at *
  subst hx
  subst hy
  rw [Int.mul_ediv_cancel_left _ (by omega), Int.mul_ediv_cancel_left _ (by omega), show p * (g * y) = g * (p * y) by rw [Int.mul_left_comm], show g * x * q = g * (x * q) by rw [Int.mul_assoc]]
  exact (Int.mul_le_mul_left hg).symm
/-- The same, of what is left to 1. -/
theorem low_not_ge {n d p q : Int} (hn : 0 ≤ n) (hd : 0 < d) : p * (d / gcd n d) ≤ (d / gcd n d - n / gcd n d) * q ↔ p * d ≤ (d - n) * q := by
  have hg := gcd_pos (a := n) hd
  obtain ⟨x, hx⟩ := gcd_dvd_left (n := n) (d := d) hn
  obtain ⟨y, hy⟩ := gcd_dvd_right (n := n) (d := d) (by omega)
  generalize gcd n d = g at *
  subst hx
  subst hy
  rw [Int.mul_ediv_cancel_left _ (by omega), Int.mul_ediv_cancel_left _ (by omega), show p * (g * y) = g * (p * y) by rw [Int.mul_left_comm], show (g * y - g * x) * q = g * ((y - x) * q) by rw [← Int.mul_sub, Int.mul_assoc]]
  exact (Int.mul_le_mul_left hg).symm
theorem low_not_le {n d p q : Int} (hn : 0 ≤ n) (hd : 0 < d) : (d / gcd n d - n / gcd n d) * q ≤ p * (d / gcd n d) ↔ (d - n) * q ≤ p * d := by
  have hg := gcd_pos (a := n) hd
  obtain ⟨x, hx⟩ := gcd_dvd_left (n := n) (d := d) hn
  obtain ⟨y, hy⟩ := gcd_dvd_right (n := n) (d := d) (by omega)
  generalize gcd n d = g at *
  subst hx
  subst hy
  rw [Int.mul_ediv_cancel_left _ (by omega), Int.mul_ediv_cancel_left _ (by omega), show p * (g * y) = g * (p * y) by rw [Int.mul_left_comm], show (g * y - g * x) * q = g * ((y - x) * q) by rw [← Int.mul_sub, Int.mul_assoc]]
  exact (Int.mul_le_mul_left hg).symm
theorem low_den {n d : Int} (_hn : 0 ≤ n) (hd : 0 < d) : 1 ≤ d / gcd n d ∧ d / gcd n d ≤ d := by
  have hg := gcd_pos (a := n) hd
  obtain ⟨y, hy⟩ := gcd_dvd_right (n := n) (d := d) (by omega)
  generalize gcd n d = g at *
  subst hy
  rw [Int.mul_ediv_cancel_left _ (by omega)]
  have hy : 0 < y := by
    rcases Int.lt_trichotomy y 0 with h | h | h
    · have := Int.mul_neg_of_pos_of_neg hg h; omega
    · subst h; simp at hd
    · exact h
  refine ⟨by omega, ?_⟩
  have := Int.mul_le_mul_of_nonneg_right (show (1 : Int) ≤ g by omega) (show 0 ≤ y by omega)
  omega
theorem low_num {n d : Int} (hn : 0 ≤ n) (hd : 0 < d) : 0 ≤ n / gcd n d ∧ n / gcd n d ≤ n := by
  have hg := gcd_pos (a := n) hd
  exact ⟨Int.ediv_nonneg hn (by omega), Int.ediv_le_self _ hn⟩
theorem low_le_one {n d : Int} (_hn : 0 ≤ n) (hd : 0 < d) (h : n ≤ d) : n / gcd n d ≤ d / gcd n d := Int.ediv_le_ediv (gcd_pos hd) h
end Pure

set_option maxHeartbeats 1000000 in
set_option maxRecDepth 100000 in
/-- **reaches**. -/
theorem reaches_any (a b c d : Int) (h1 : 0 ≤ a * d) (h2 : a * d ≤ 4611686018427387904) (h3 : 0 ≤ c * b) (h4 : c * b ≤ 4611686018427387904) (r : Bool) (hr : decide (c * b ≤ a * d) = r) (w : World) :
    Calls Tryz.prog 76 #[.agg #[.int .i64 a, .int .i64 b], .agg #[.int .i64 c, .int .i64 d]] w fun e w' => e = .returned (.bool r) ∧ Below w.heap.size w w' := by
  subst hr
  have hb : Below w.heap.size w ((w.alloc (.cells #[.int .i64 a, .int .i64 b] 31)).alloc (.cells #[.int .i64 c, .int .i64 d] 31)) := ((Below.refl _ _).alloc (Nat.le_refl _) _).alloc (by simp) _
  have HB := Lib.hid hb
  clear hb
  go_enter Tryz.func76, Tryz.ntmps76
  go_wp2
  go_ret
  exact ⟨rfl, HB.out⟩

set_option maxHeartbeats 1000000 in
set_option maxRecDepth 100000 in
/-- **not**. -/
theorem not_any (n d : Int) (h0 : 0 ≤ d - n) (h1 : d - n ≤ 4611686018427387904) (w : World) :
    Calls Tryz.prog 77 #[.agg #[.int .i64 n, .int .i64 d]] w fun e w' => e = .returned (.agg #[.int .i64 (d - n), .int .i64 d]) ∧ Below w.heap.size w w' := by
  go_enter Tryz.func77, Tryz.ntmps77
  go_wp2
  refine bodyPost_ret (v := .agg #[.int .i64 (d - n), .int .i64 d]) (by simp [results, Tryz.results77, go_sem]) rfl ⟨rfl, ?_⟩
  exact ((Below.refl _ _).alloc (Nat.le_refl _) _).alloc (by simp) _

end Go.Proofs.YtjegkkpdemoldaaGreatDoor
