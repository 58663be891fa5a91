/-
  Wheels, pairs, fractions; the greatest common divisor, lowest terms, and what is asked of wheels.
-/
import Derived.Test.YtiiekecohmaipaaVCopy
import Derived.Test.YtiiekecohmaipaaRestF
import Derived.BigRegion
import Derived.Lib.AppendZeros
namespace Go.Proofs.Ytiiekecohmaipaa
open Go.RowKit

abbrev wheelsV (a : Option Addr) (n c : Nat) : Value := .agg #[.slice a n c]
abbrev pairV (x y : Int) : Value := .agg #[.int .i64 x, .int .i64 y]
abbrev partV (x y : Int) : Value := .agg #[.int .i64 x, .int .i64 y]
abbrev twoV (x y : Int) : Value := .agg #[.int .i64 x, .int .i64 y]
abbrev twoB (x y : Int) : Obj := .cells #[.int .i64 x, .int .i64 y] 42
theorem infoInt : ∃ i, Try.prog.info? 3 = some i ∧ i.zero = some (.int .i64 0) ∧ i.size = 1 ∧ i.bytes = 8 := by
  have h : (Try.prog.info? 3).map (fun i => (i.zero, i.size, i.bytes)) = some (some (.int .i64 0), 1, 8) := by kernel_rfl
  obtain ⟨i, hi, h2⟩ := Option.map_eq_some_iff.1 h
  simp only [Prod.mk.injEq] at h2
  exact ⟨i, hi, h2.1, h2.2.1, h2.2.2⟩
namespace Pure
theorem gcd_step (x y : Nat) : Nat.gcd y (x % y) = Nat.gcd x y := by
  rw [Nat.gcd_comm y, ← Nat.gcd_rec, Nat.gcd_comm]
theorem tmod_nat (x y : Nat) : Int.tmod (x : Int) (y : Int) = ((x % y : Nat) : Int) := by
  rw [Int.tmod_eq_emod_of_nonneg (by omega)]
  rfl
theorem tdiv_nat (x y : Nat) : Int.tdiv (x : Int) (y : Int) = ((x / y : Nat) : Int) := by
  rw [Int.tdiv_eq_ediv_of_nonneg (by omega)]
  rfl
end Pure
/-- No sum or product of teeth is above this. -/
abbrev most : Nat := 10000000000000
theorem wrap_nat {x : Nat} (h : x ≤ most) : IntKind.i64.wrap (x : Int) = x := IntWalk.i64_in _ (by unfold most at h; omega)

theorem rWithinE (n lo hi : Int) (r : Bool) (hr : decide (lo ≤ n ∧ n ≤ hi) = r) (w : World) : Calls Try.prog 14 #[.int .i64 n, .int .i64 lo, .int .i64 hi] w fun e w' => e = .returned (.bool r) ∧ w = w' := by
  subst hr
  go_enter Try.func14, Try.ntmps14
  by_cases h : lo ≤ n
  · go_wp2_with fail
    go_ret
    exact ⟨ret_bool (by simp [h]), rfl⟩
  · go_wp2_with fail
    go_ret
    exact ⟨ret_bool (by simp; omega), rfl⟩

set_option maxHeartbeats 1000000 in
set_option maxRecDepth 100000 in
theorem sameInts_any (a a' : Option Addr) (len cap cap' : Nat) (F : Nat → Int) (hl : len ≤ 1000) (w : World) (h : NumsAt w a len F) (h' : NumsAt w a' len F) :
    Calls Try.prog 8 #[.slice a len cap, .slice a' len cap'] w fun e w' => e = .returned (.bool true) ∧ Below w.heap.size w w' := by
  have HA := Lib.hid h
  have HA' := Lib.hid h'
  clear h h'
  go_enter Try.func8, Try.ntmps8
  go_wp2_with fail
  go_loopw [5] (fun i wr => ∃ k : Nat, k ≤ len ∧ i = .int .i64 k ∧ Below w.heap.size w wr) (fun i _ => len - (intOf i).toNat)
  case atStart => exact ⟨0, Nat.zero_le _, rfl, Below.refl _ _⟩
  case round =>
    obtain ⟨k, hk, rfl, hB⟩ := hrel
    by_cases hlt : k < len
    · obtain ⟨b, off, rfl, g0⟩ := HA.out k hlt
      obtain ⟨b', off', rfl, g1⟩ := HA'.out k hlt
      have e0 := below_cell hB g0
      have e1 := below_cell hB g1
      have hk2 : (k : Int) < len := by omega
      have x0 := among_below e0
      have x1 := among_below e1
      have HB := Lib.hid hB
      have HSt : Hid (Below wr.heap.size wr wr.drew) := Lib.hid (Below.refl _ _).drew
      have hne : Nonempty (Among (Below wr.heap.size wr)) := ⟨⟨_, HSt.out⟩⟩
      clear hB g0 g1 e0 e1
      go_wp2_with fail
      refine wp_region_class (Below wr.heap.size wr) (by kernel_rfl) (by kernel_rfl) HSt.out ?_
      repeat (go_big_quiet_step (fail))
      refine wpQuiet_nil ?_
      intro w3 hx
      have HB3 : Hid (Below w.heap.size w w3) := Lib.hid (below_thn HB.out (among_out hx))
      clear hx hne x0 x1
      go_wp2_with fail
      go_roundw
      case rel => exact ⟨k + 1, by omega, by go_num, HB3.out⟩
      case measure => simp [intOf]; omega
    · obtain rfl : k = len := by omega
      go_wp2_with fail
      go_ret
      exact ⟨rfl, hB⟩

namespace Pure
def lcmN (x y : Nat) : Nat := x / Nat.gcd x y * y
theorem lcm_le {x y : Nat} : lcmN x y ≤ x * y := Nat.mul_le_mul_right _ (Nat.div_le_self _ _)
end Pure
namespace Pure
/-- A fraction in lowest terms. -/
def lowN (x y : Nat) : Nat := x / Nat.gcd x y
def lowD (x y : Nat) : Nat := y / Nat.gcd x y
end Pure
namespace Pure
def teethB (n : Nat) (F : Nat → Int) : Bool := decide ((n : Int) ≤ 8) && inSpan 6 120 n F
theorem teethB_iff {n : Nat} {F : Nat → Int} : teethB n F = true ↔ n ≤ 8 ∧ ∀ j, j < n → 6 ≤ F j ∧ F j ≤ 120 := by
  unfold teethB inSpan
  simp only [Bool.and_eq_true, decide_eq_true_eq]
  constructor
  · rintro ⟨h1, h2⟩; exact ⟨by omega, h2⟩
  · rintro ⟨h1, h2⟩; exact ⟨by omega, h2⟩
theorem teethB_no {n : Nat} {F : Nat → Int} (g : ¬ (n ≤ 8 ∧ ∀ j, j < n → 6 ≤ F j ∧ F j ≤ 120)) : teethB n F = false := by
  cases e : teethB n F with
  | false => rfl
  | true => exact absurd (teethB_iff.1 e) g
end Pure
set_option maxHeartbeats 1000000 in
theorem toothed_any (a : Option Addr) (n c : Nat) (F : Nat → Int) (hn : n ≤ 1000) (w : World) (h : NumsAt w a n F) :
    Calls Try.prog 9 #[.slice a n c] w fun e w' => e = .returned (.bool (Pure.inSpan 6 120 n F)) ∧ Below w.heap.size w w' := by
  go_enter Try.func9, Try.ntmps9
  go_wp2_with fail
  refine (within_nums 6 120 a n c F (by omega) _ h).mono ?_
  rintro e u ⟨rfl, rfl⟩
  go_wp2_with fail
  go_ret
  exact ⟨rfl, below_new _ _⟩
end Go.Proofs.Ytiiekecohmaipaa
