/-
  The contracts of over and some, of the statements: a chance as so many of all sets, and a number of a cargo's span.
-/
import Derived.Test.YtiiecehmldipmaaBoxes
import Derived.Deep.QuietTactic
namespace Go.Proofs.Ytiiecehmldipmaa
open Go.RowKit Go.Shelf

namespace Pure
theorem low_share {m all : Int} (hm : 0 ≤ m) (ha : 0 < all) : all % (all / gcd m all) = 0 ∧ m / gcd m all * (all / (all / gcd m all)) = m := by
  obtain ⟨x, rfl⟩ : ∃ x : Nat, m = x := ⟨m.toNat, by omega⟩
  obtain ⟨y, rfl⟩ : ∃ y : Nat, all = y := ⟨all.toNat, by omega⟩
  unfold gcd
  simp only [Int.toNat_natCast]
  have hy : 0 < y := by omega
  have hg : 0 < x.gcd y := Nat.gcd_pos_of_pos_right _ hy
  obtain ⟨s, hs⟩ := Nat.gcd_dvd_left x y
  obtain ⟨t, ht⟩ := Nat.gcd_dvd_right x y
  generalize x.gcd y = g at *
  subst hs ht
  have ht0 : 0 < t := Nat.pos_of_mul_pos_left hy
  rw [Int.natCast_mul, Int.natCast_mul, Int.mul_ediv_cancel_left _ (show (g : Int) ≠ 0 by omega), Int.mul_ediv_cancel_left _ (show (g : Int) ≠ 0 by omega), Int.mul_ediv_cancel _ (show (t : Int) ≠ 0 by omega)]
  exact ⟨Int.mul_emod_left _ _, Int.mul_comm _ _⟩
end Pure

theorem below_draws (w : World) : ∀ n : Nat, Below w.heap.size w (w.drewN n) := fun _ => ⟨rfl, rfl, rfl, Nat.le_refl _, fun _ _ => rfl⟩

set_option maxHeartbeats 2000000 in
set_option maxRecDepth 100000 in
theorem over_case (pn pd all m : Int) (h1 : 1 ≤ pd) (h2 : pd ≤ all) (ha : all ≤ 68719476736) (h0 : 0 ≤ pn) (hle : pn ≤ pd) (hmod : (all % pd != 0) = false) (m0 : 0 ≤ pn * (all / pd)) (m1 : pn * (all / pd) ≤ 68719476736) (hm : Hid (pn * (all / pd) = m)) (w : World) :
    Calls Try.prog 34 #[.agg #[.int .i64 pn, .int .i64 pd], .int .i64 all] w fun e w' => e = .returned (.tuple #[.int .i64 m, .bool true]) ∧ Below w.heap.size w w' := by
  have k1 : (0 : Int) < pd := by omega
  have k2 : (0 : Int) ≤ all := by omega
  have k3 : 0 ≤ all / pd := Int.ediv_nonneg k2 (by omega)
  have k4 : all / pd ≤ 68719476736 := Int.le_trans (Int.ediv_le_self _ k2) ha
  go_enter Try.func34, Try.ntmps34
  go_wp2_with fail
  have c0 := heap_cell (heap_top w (.cells #[.int .i64 pn, .int .i64 pd] 31) rfl) (j := 0) rfl
  have c1 := heap_cell (heap_top w (.cells #[.int .i64 pn, .int .i64 pd] 31) rfl) (j := 1) rfl
  go_quiet (fail)
  go_wp2_with fail
  go_ret2
  refine ⟨by rw [hm.out]; rfl, ?_⟩
  exact below_then ((Below.refl _ _).alloc (Nat.le_refl _) _) (below_draws _ _)

/-- **over**, of a chance in lowest terms. -/
theorem overOk {m all : Int} (m0 : 0 ≤ m) (m1 : m ≤ all) (a0 : 0 < all) (a1 : all ≤ 68719476736) {pn pd : Int} (h : Hid (partV m all = .agg #[.int .i64 pn, .int .i64 pd])) (w : World) :
    Calls Try.prog 34 #[.agg #[.int .i64 pn, .int .i64 pd], .int .i64 all] w fun e w' => e = .returned (.tuple #[.int .i64 m, .bool true]) ∧ Below w.heap.size w w' := by
  have h' := h.out
  simp only [partV, Value.agg.injEq, Array.mk.injEq, List.cons.injEq, Value.int.injEq, true_and, and_true] at h'
  obtain ⟨rfl, rfl⟩ := h'
  have hs := Pure.low_share (m := m) m0 a0
  have hd := Pure.low_den (n := m) m0 a0
  have hn := Pure.low_num (n := m) m0 a0
  exact over_case _ _ all m hd.1 hd.2 a1 hn.1 (Pure.low_le_one m0 a0 m1) (by rw [hs.1]; rfl) (by rw [hs.2]; omega) (by rw [hs.2]; omega) (Lib.hid hs.2) w

set_option maxHeartbeats 2000000 in
set_option maxRecDepth 100000 in
/-- **some**. -/
theorem some_any (b lo hi x : Int) (l0 : 0 ≤ lo) (l1 : lo ≤ hi) (h1 : hi ≤ 36) (x0 : 0 ≤ x) (x1 : x ≤ 255) {d : Int} (hd : Hid (lo + x % (hi - lo + 1) = d)) (w : World) :
    Calls Try.prog 35 #[cargoV b lo hi, .int .u8 x] w fun e w' => e = .returned (.int .i64 d) ∧ Below w.heap.size w w' := by
  have k1 : (0 : Int) < hi - lo + 1 := by omega
  have k2 : hi - lo + 1 ≤ 37 := by omega
  have k3 : 0 ≤ x % (hi - lo + 1) := Int.emod_nonneg _ (by omega)
  have k4 : x % (hi - lo + 1) < hi - lo + 1 := Int.emod_lt_of_pos _ k1
  go_enter Try.func35, Try.ntmps35
  go_wp2_with fail
  have c1 := heap_cell (heap_top w (.cells #[.int .i64 b, .int .i64 lo, .int .i64 hi] 25) rfl) (j := 1) rfl
  have c2 := heap_cell (heap_top w (.cells #[.int .i64 b, .int .i64 lo, .int .i64 hi] 25) rfl) (j := 2) rfl
  have q1 : IntKind.i64.wrap (hi - lo) = hi - lo := IntWalk.i64_in _ (by omega)
  have q2 : IntKind.i64.wrap (hi - lo + 1) = hi - lo + 1 := IntWalk.i64_in _ (by omega)
  have q3 : IntKind.i64.wrap (lo + x % (hi - lo + 1)) = lo + x % (hi - lo + 1) := IntWalk.i64_in _ (by omega)
  go_quiet (fail)
  clear q1 q2 q3
  go_wp2_with fail
  go_ret
  refine ⟨ret_int hd.out, ?_⟩
  exact below_then ((Below.refl _ _).alloc (Nat.le_refl _) _) (below_draws _ _)

end Go.Proofs.Ytiiecehmldipmaa
