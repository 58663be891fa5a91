/-
  The contracts of divisor and part: fractions in lowest terms.
-/
import Derived.Test.YtnldipniaphmgaaWithin
import Derived.RegionTactic
namespace Go.Proofs.Ytnldipniaphmgaa
open Go.RowKit

namespace Pure
/-- The greatest common divisor. -/
def gcd (a b : Int) : Int := (a.toNat.gcd b.toNat : Nat)
theorem gcd_step {a b : Int} (ha : 0 < a) (hb : 0 ≤ b) : gcd (b % a) a = gcd a b := by
  unfold gcd
  rw [Nat.gcd_rec a.toNat b.toNat]
  congr 2
  rw [Int.toNat_emod hb (by omega)]
theorem gcd_zero {b : Int} (hb : 0 ≤ b) : gcd 0 b = b := by
  unfold gcd
  simp
  omega
theorem gcd_pos {a b : Int} (hb : 0 < b) : 0 < gcd a b := by
  unfold gcd
  have : 0 < a.toNat.gcd b.toNat := Nat.gcd_pos_of_pos_right _ (by omega)
  omega
theorem gcd_le {a b : Int} (hb : 0 < b) : gcd a b ≤ b := by
  unfold gcd
  have := Nat.gcd_le_right (m := a.toNat) (n := b.toNat) (by omega)
  omega
end Pure

set_option maxHeartbeats 1000000 in
set_option maxRecDepth 100000 in
/-- **divisor**. -/
theorem divisor_any (a b : Int) (ha : 0 ≤ a) (ha1 : a ≤ 9223372036854775807) (hb : 0 ≤ b) (hb1 : b ≤ 9223372036854775807) (w : World) :
    Calls Try.prog 116 #[.int .i64 a, .int .i64 b] w fun e w' => e = .returned (.int .i64 (Pure.gcd a b)) ∧ w = w' := by
  go_enter Try.func116, Try.ntmps116
  go_wp2_with fail
  go_loop [0, 1] (fun s t => ∃ x y : Int, 0 ≤ x ∧ x ≤ 9223372036854775807 ∧ 0 ≤ y ∧ y ≤ 9223372036854775807 ∧ s = .int .i64 x ∧ t = .int .i64 y ∧ Pure.gcd x y = Pure.gcd a b) (fun s _ => (intOf s).toNat)
  case atStart => exact ⟨a, b, ha, ha1, hb, hb1, rfl, rfl, rfl⟩
  case round =>
    obtain ⟨x, y, hx, hx1, hy, hy1, rfl, rfl, hg⟩ := hrel
    have HG := Lib.hid hg
    clear hg ha ha1 hb hb1
    by_cases h0 : x = 0
    · subst h0
      go_wp2_with fail
      go_ret
      exact ⟨ret_int (by rw [← HG.out, Pure.gcd_zero hy]), rfl⟩
    · have hne : (x != 0) = true := by simpa using h0
      have hpos : 0 < x := by omega
      have hm1 := Int.emod_nonneg y h0
      have hm2 := Int.emod_lt_of_pos y hpos
      clear h0
      go_wp2_with fail
      go_round
      case rel => exact ⟨y % x, x, hm1, by omega, hx, hx1, rfl, rfl, by rw [Pure.gcd_step hpos hy]; exact HG.out⟩
      case measure => simp [intOf]; omega

set_option maxHeartbeats 1000000 in
set_option maxRecDepth 100000 in
/-- **part**: a fraction in lowest terms. -/
theorem part_any (a b : Int) (ha : 0 ≤ a) (ha1 : a ≤ 9223372036854775807) (hb : 0 < b) (hb1 : b ≤ 9223372036854775807) (w : World) :
    Calls Try.prog 81 #[.int .i64 a, .int .i64 b] w fun e w' => e = .returned (.agg #[.int .i64 (a / Pure.gcd a b), .int .i64 (b / Pure.gcd a b)]) ∧ Below w.heap.size w w' := by
  have hg1 := Pure.gcd_pos (a := a) hb
  have hg2 := Pure.gcd_le (a := a) hb
  go_enter Try.func81, Try.ntmps81
  go_wp2_with (go_at_call 116; refine (divisor_any _ _ (by omega) (by omega) (by omega) (by omega) _).mono ?_; rintro e w' ⟨rfl, rfl⟩)
  go_region
  go_wp2_with fail
  refine bodyPost_ret (v := .agg #[.int .i64 (a / Pure.gcd a b), .int .i64 (b / Pure.gcd a b)]) (by simp [results, Try.results81, go_sem]) rfl ⟨rfl, ?_⟩
  repeat (first | exact Below.refl _ _ | refine Below.drew ?_ | refine Below.alloc ?_ (by simp; try omega) _)

end Go.Proofs.Ytnldipniaphmgaa
