/-
  The contracts of Mean and Ways.
-/
import Derived.Test.YtiiecehmldipmaaChance
namespace Go.Proofs.Ytiiecehmldipmaa
open Go.RowKit Go.Shelf

namespace Pure
/-- How many dirty bags all sets of o bags have together. -/
def total (b d o : Int) : Int := sum b d o (fun j => j)
theorem total_nonneg {b d o : Int} : 0 ≤ total b d o := sumTo_nonneg (n := (o + 1).toNat) (fun j _ => by omega) _ (Nat.le_refl _)
theorem mul_le36 {x j : Int} (h0 : 0 ≤ x) (h : x ≤ 68719476736) (hj : j ≤ 36) : x * j ≤ 2473901162496 := by
  have h1 := Int.mul_le_mul_of_nonneg_left hj h0
  omega
theorem total_le {b d o : Int} (hb : b ≤ 36) (ho : o ≤ 36) : total b d o ≤ 91534343012352 := by
  have h := sumTo_le (b := b) (d := d) (o := o) (f := fun j => j) (n := (o + 1).toNat) (B := 2473901162496) (fun j hj => mul_le36 (ways_nonneg b d o j) (ways_le hb) (by omega)) _ (Nat.le_refl _)
  unfold total sum
  omega
end Pure

namespace Pure
def okWays (n k : Int) : Bool := decide (0 ≤ n ∧ n ≤ 36 ∧ 0 ≤ k ∧ k ≤ n)
/-- A number with an error: without one if the code is 0. -/
def resI (code : Int) (v : Int) : Value := if code = 0 then .tuple #[.int .i64 v, .int .i64 0] else .tuple #[.int .i64 0, .int .i64 code]
theorem resI_zero {code : Int} (h : code = 0) (v : Int) : resI code v = .tuple #[.int .i64 v, .int .i64 0] := by unfold resI; rw [if_pos h]
theorem resI_err {code : Int} (h : code ≠ 0) (v : Int) : resI code v = .tuple #[.int .i64 0, .int .i64 code] := by unfold resI; rw [if_neg h]
end Pure

set_option maxHeartbeats 2000000 in
set_option maxRecDepth 100000 in
/-- **Ways**. -/
theorem waysTop_any (n k : Int) (w : World) :
    Calls Try.prog 63 #[.int .i64 n, .int .i64 k] w fun e w' => e = .returned (Pure.resI (Pure.err (Pure.okWays n k) 2) (Pure.sets n k)) ∧ Below w.heap.size w w' := by
  have hb1 : ∃ r1, (decide (0 ≤ n) && decide (n ≤ 36)) = r1 := ⟨_, rfl⟩
  have hb2 : ∃ r2, (decide (0 ≤ k) && decide (k ≤ n)) = r2 := ⟨_, rfl⟩
  obtain ⟨r1, h1⟩ := hb1
  obtain ⟨r2, h2⟩ := hb2
  have HF : Hid (Pure.okWays n k = (r1 && r2)) := by
    subst h1
    subst h2
    refine Lib.hid ?_
    unfold Pure.okWays
    rw [Bool.eq_iff_iff]
    simp
    omega
  have H1 := Lib.hid h1
  have H2 := Lib.hid h2
  clear h1 h2
  go_enter Try.func63, Try.ntmps63
  go_wp2_with fail
  refine (within1 0 36 n _ 1 _ (cells_top _ _ _ rfl 0) r1 H1.out).mono ?_
  rintro e w' ⟨rfl, rfl⟩
  cases r1
  · go_wp2_with fail
    go_ret2
    refine ⟨by rw [HF.out]; rfl, ?_⟩
    repeat (first | exact Below.refl _ _ | refine Below.alloc ?_ (by simp; try omega) _)
  · go_wp2_with fail
    refine (within1 0 n k _ 1 _ (cells_top _ _ _ (by simp) 0) r2 H2.out).mono ?_
    rintro e w' ⟨rfl, rfl⟩
    cases r2
    · go_wp2_with fail
      go_ret2
      refine ⟨by rw [HF.out]; rfl, ?_⟩
      repeat (first | exact Below.refl _ _ | refine Below.alloc ?_ (by simp; try omega) _)
    · have hn : n ≤ 36 := by have := H1.out; simp at this; omega
      have HB : Hid (Below w.heap.size w ((((w.alloc (.cells #[.int .i64 n] 3)).alloc (.cells #[.int .i64 0, .int .i64 36] 23)).alloc (.cells #[.int .i64 k] 3)).alloc (.cells #[.int .i64 0, .int .i64 n] 23))) := Lib.hid (by repeat (first | exact Below.refl _ _ | refine Below.alloc ?_ (by simp; try omega) _))
      go_wp2_with fail
      refine (counter_any _).mono ?_
      rintro e w2 ⟨M, T, C, rfl, hM, hw2, hg2⟩
      have HB2 : Hid (Below w.heap.size w w2) := Lib.hid (HB.out.grown hg2 (by simp; omega) (fun k e => by cases e))
      have HM : Hid (w.heap.size ≤ M) := Lib.hid (by simp at hM; omega)
      have HW2 := Lib.hid hw2
      clear hM hw2 hg2
      go_wp2_with fail
      refine (count_calls hn HW2.out).mono ?_
      rintro e w3 ⟨rfl, hs⟩
      have HS := Lib.hid hs
      clear hs
      go_wp2_with fail
      go_ret2
      exact ⟨by rw [HF.out]; rfl, below_step HB2.out HS.out HB2.out.size HM.out⟩

end Go.Proofs.Ytiiecehmldipmaa
