/-
  The contracts of the specification's own functions, first part: numbers in spans, sets, fractions.
-/
import Derived.Test.YtnldipniaphmgaaMean
namespace Go.Proofs.Ytnldipniaphmgaa
open Go.RowKit Go.Shelf

set_option maxHeartbeats 1000000 in
theorem rWithin_any (n lo hi : Int) (r : Bool) (hr : (decide (lo ≤ n) && decide (n ≤ hi)) = r) (w : World) :
    Calls Try.prog 85 #[.int .i64 n, .int .i64 lo, .int .i64 hi] w fun e w' => e = .returned (.bool r) ∧ w = w' := by
  have HR := Lib.hid hr
  clear hr
  by_cases h1 : lo ≤ n
  · by_cases h2 : n ≤ hi
    · go_enter Try.func85, Try.ntmps85
      go_wp2_with fail
      go_ret
      exact ⟨ret_bool (by rw [← HR.out]; simp [h1, h2]), rfl⟩
    · go_enter Try.func85, Try.ntmps85
      go_wp2_with fail
      go_ret
      exact ⟨ret_bool (by rw [← HR.out]; simp [h1, h2]), rfl⟩
  · have hd : decide (lo ≤ n) = false := by simpa using h1
    go_enter Try.func85, Try.ntmps85
    go_wp2_with fail
    go_ret
    exact ⟨ret_bool (by rw [← HR.out, hd]; rfl), rfl⟩

set_option maxHeartbeats 1000000 in
set_option maxRecDepth 100000 in
theorem rCargo_any (b lo hi : Int) (w : World) :
    Calls Try.prog 32 #[cargoV b lo hi] w fun e w' => e = .returned (.bool (Pure.okCargo b lo hi)) ∧ w' = w.alloc (.cells #[.int .i64 b, .int .i64 lo, .int .i64 hi] 25) := by
  have hF : Hid (Pure.okCargo b lo hi = ((decide (1 ≤ b) && decide (b ≤ 36)) && decide (0 ≤ lo) && decide (lo ≤ hi) && decide (hi ≤ b))) := by
    refine Lib.hid ?_
    unfold Pure.okCargo
    rw [Bool.eq_iff_iff]
    simp
    omega
  obtain ⟨r1, h1⟩ : ∃ r1, (decide (1 ≤ b) && decide (b ≤ 36)) = r1 := ⟨_, rfl⟩
  obtain ⟨r2, h2⟩ : ∃ r2, decide (0 ≤ lo) = r2 := ⟨_, rfl⟩
  obtain ⟨r3, h3⟩ : ∃ r3, decide (lo ≤ hi) = r3 := ⟨_, rfl⟩
  obtain ⟨r4, h4⟩ : ∃ r4, decide (hi ≤ b) = r4 := ⟨_, rfl⟩
  have hG : Hid (Pure.okCargo b lo hi = (r1 && r2 && r3 && r4)) := Lib.hid (by rw [hF.out, h1, h2, h3, h4])
  clear hF
  have H1 := Lib.hid h1
  clear h1
  cases r1 <;> cases r2 <;> cases r3 <;> cases r4
  all_goals
    go_enter Try.func32, Try.ntmps32
    go_wp2_with fail
    refine (rWithin_any b 1 36 _ H1.out _).mono ?_
    rintro e w' ⟨rfl, rfl⟩
    go_wp2_with fail
    go_ret
    exact ⟨ret_bool (by rw [hG.out]; rfl), rfl⟩

set_option maxHeartbeats 1000000 in
set_option maxRecDepth 100000 in
theorem rDraw_any (b lo hi o f : Int) (w : World) :
    Calls Try.prog 38 #[cargoV b lo hi, .agg #[.int .i64 o, .int .i64 f]] w fun e w' => e = .returned (.bool (Pure.okDraw b o f)) ∧ w' = (w.alloc (.cells #[.int .i64 b, .int .i64 lo, .int .i64 hi] 25)).alloc (.cells #[.int .i64 o, .int .i64 f] 64) := by
  obtain ⟨r1, h1⟩ : ∃ r1, (decide (0 ≤ o) && decide (o ≤ b)) = r1 := ⟨_, rfl⟩
  obtain ⟨r2, h2⟩ : ∃ r2, (decide (0 ≤ f) && decide (f ≤ o)) = r2 := ⟨_, rfl⟩
  have hG : Hid (Pure.okDraw b o f = (r1 && r2)) := by
    subst h1
    subst h2
    refine Lib.hid ?_
    unfold Pure.okDraw
    rw [Bool.eq_iff_iff]
    simp
    omega
  have H1 := Lib.hid h1
  have H2 := Lib.hid h2
  clear h1 h2
  cases r1
  · go_enter Try.func38, Try.ntmps38
    go_wp2_with fail
    refine (rWithin_any o 0 b _ H1.out _).mono ?_
    rintro e w' ⟨rfl, rfl⟩
    go_wp2_with fail
    go_ret
    exact ⟨ret_bool (by rw [hG.out]; rfl), rfl⟩
  · go_enter Try.func38, Try.ntmps38
    go_wp2_with fail
    refine (rWithin_any o 0 b _ H1.out _).mono ?_
    rintro e w' ⟨rfl, rfl⟩
    go_wp2_with fail
    refine (rWithin_any f 0 o _ H2.out _).mono ?_
    rintro e w' ⟨rfl, rfl⟩
    go_wp2_with fail
    go_ret
    exact ⟨ret_bool (by rw [hG.out]; rfl), rfl⟩

set_option maxHeartbeats 1000000 in
set_option maxRecDepth 100000 in
theorem rMay_any (b lo hi d : Int) (w : World) :
    Calls Try.prog 58 #[cargoV b lo hi, .int .i64 d] w fun e w' => e = .returned (.bool (Pure.okIn lo hi d)) ∧ w' = w.alloc (.cells #[.int .i64 b, .int .i64 lo, .int .i64 hi] 25) := by
  obtain ⟨r1, h1⟩ : ∃ r1, (decide (lo ≤ d) && decide (d ≤ hi)) = r1 := ⟨_, rfl⟩
  have hG : Hid (Pure.okIn lo hi d = r1) := by
    subst h1
    refine Lib.hid ?_
    unfold Pure.okIn
    rw [Bool.eq_iff_iff]
    simp
  have H1 := Lib.hid h1
  clear h1
  go_enter Try.func58, Try.ntmps58
  go_wp2_with fail
  refine (rWithin_any d lo hi _ H1.out _).mono ?_
  rintro e w' ⟨rfl, rfl⟩
  go_wp2_with fail
  go_ret
  exact ⟨ret_bool (by rw [hG.out]), rfl⟩

namespace Pure
/-- One factor more. -/
theorem choose_step (a j : Nat) : (ch (a + j) j * ((a : Int) + (j + 1))) / ((j : Int) + 1) = ch (a + (j + 1)) (j + 1) := by
  rw [show a + (j + 1) = a + j + 1 from rfl, show (a : Int) + (j + 1) = (a : Int) + j + 1 by omega]
  have h := ch_absorb (a + j) j
  have e : ((ch (a + j) j : Nat) : Int) * ((a : Int) + j + 1) = ((j : Int) + 1) * ((ch (a + j + 1) (j + 1) : Nat) : Int) := by
    have h2 : (((j + 1) * ch (a + j + 1) (j + 1) : Nat) : Int) = (((a + j + 1) * ch (a + j) j : Nat) : Int) := by rw [h]
    simp only [Int.natCast_mul, Int.natCast_add] at h2
    rw [Int.mul_comm]
    simpa using h2.symm
  rw [e, Int.mul_ediv_cancel_left _ (by omega)]
end Pure

set_option maxHeartbeats 1000000 in
set_option maxRecDepth 100000 in
/-- **Choose**. -/
theorem choose_any (n k : Int) (h36 : n ≤ 36) (w : World) :
    Calls Try.prog 34 #[.int .i64 n, .int .i64 k] w fun e w' => e = .returned (.int .i64 (Pure.sets n k)) ∧ w = w' := by
  by_cases hc : k < 0 ∨ n < k
  · have HF := Lib.hid (Pure.sets_none hc)
    by_cases h : k < 0
    · clear hc
      go_enter Try.func34, Try.ntmps34
      go_wp2_with fail
      go_ret
      exact ⟨ret_int HF.out.symm, rfl⟩
    · have h' : n < k := by omega
      clear hc
      go_enter Try.func34, Try.ntmps34
      go_wp2_with fail
      go_ret
      exact ⟨ret_int HF.out.symm, rfl⟩
  · obtain ⟨m, rfl⟩ : ∃ m : Nat, k = m := ⟨k.toNat, by omega⟩
    obtain ⟨a, rfl⟩ : ∃ a : Nat, n = (a : Int) + m := ⟨(n - m).toNat, by omega⟩
    have HF : Hid (Pure.sets ((a : Int) + m) m = Pure.ch (a + m) m) := Lib.hid (by rw [← Int.natCast_add, Pure.sets_nat])
    clear hc
    have h0 : ¬ (m : Int) < 0 := by omega
    have h1 : ¬ (a : Int) + m < m := by omega
    go_enter Try.func34, Try.ntmps34
    go_wp2_with fail
    go_loop [5, 6] (fun s t => ∃ j : Nat, j ≤ m ∧ s = .int .i64 (Pure.ch (a + j) j) ∧ t = .int .i64 ((j : Int) + 1)) (fun _ t => m + 1 - (intOf t).toNat)
    case atStart => exact ⟨0, Nat.zero_le _, by rw [Pure.ch_zero]; rfl, rfl⟩
    case round =>
      obtain ⟨j, hj, rfl, rfl⟩ := hrel
      by_cases hlt : j < m
      · have hb := Pure.ch_le_pow (a + j) j
        have hb2 : 2 ^ (a + j) ≤ 2 ^ 36 := Nat.pow_le_pow_right (by omega) (by omega)
        have hb3 : (2 : Nat) ^ 36 = 68719476736 := by decide
        have hb4 : Pure.ch (a + j) j ≤ 68719476736 := by omega
        have hm1 : 0 ≤ (Pure.ch (a + j) j : Int) * ((a : Int) + (j + 1)) := Int.mul_nonneg (by omega) (by omega)
        have hm2 : (Pure.ch (a + j) j : Int) * ((a : Int) + (j + 1)) ≤ 68719476736 * 37 := Int.mul_le_mul (by omega) (by omega) (by omega) (by decide)
        have hs := Pure.choose_step a j
        have hp := Pure.ch_le_pow (a + (j + 1)) (j + 1)
        have hp2 : 2 ^ (a + (j + 1)) ≤ 2 ^ 36 := Nat.pow_le_pow_right (by omega) (by omega)
        have hq1 : 0 ≤ (Pure.ch (a + j) j : Int) * ((a : Int) + (j + 1)) / ((j : Int) + 1) := by omega
        have hq2 : (Pure.ch (a + j) j : Int) * ((a : Int) + (j + 1)) / ((j : Int) + 1) ≤ 68719476736 := by omega
        have HS := Lib.hid hs
        clear hb hb2 hb3 hs hp hp2
        go_wp2_with fail
        go_round
        case rel => exact ⟨j + 1, by omega, by rw [HS.out], by go_num⟩
        case measure => simp [intOf]; omega
      · obtain rfl : j = m := by omega
        go_wp2_with fail
        go_ret
        exact ⟨ret_int HF.out.symm, rfl⟩

end Go.Proofs.Ytnldipniaphmgaa
