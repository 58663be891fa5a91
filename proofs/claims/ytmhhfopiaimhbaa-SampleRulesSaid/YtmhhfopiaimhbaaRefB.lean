/-
  The contracts of the specification's own functions, first part: numbers in spans, sets, fractions.
  The contracts of the specification's own functions, second part: ways, chances, fractions.
-/
import Derived.Test.YtmhhfopiaimhbaaMean

namespace Go.Proofs.Ytmhhfopiaimhbaa
open Go.RowKit Go.Shelf

set_option maxHeartbeats 1000000 in
theorem rWithin_any (n lo hi : Int) (r : Bool) (hr : (decide (lo ≤ n) && decide (n ≤ hi)) = r) (w : World) :
    Calls Try.prog 47 #[.int .i64 n, .int .i64 lo, .int .i64 hi] w fun e w' => e = .returned (.bool r) ∧ w = w' := by
  have HR := Lib.hid hr
  clear hr
  by_cases h1 : lo ≤ n
  · by_cases h2 : n ≤ hi
    · go_enter Try.func47, Try.ntmps47
      go_wp2_with fail
      go_ret
      exact ⟨ret_bool (by rw [← HR.out]; simp [h1, h2]), rfl⟩
    · go_enter Try.func47, Try.ntmps47
      go_wp2_with fail
      go_ret
      exact ⟨ret_bool (by rw [← HR.out]; simp [h1, h2]), rfl⟩
  · have hd : decide (lo ≤ n) = false := by simpa using h1
    go_enter Try.func47, Try.ntmps47
    go_wp2_with fail
    go_ret
    exact ⟨ret_bool (by rw [← HR.out, hd]; rfl), rfl⟩

set_option maxHeartbeats 1000000 in
set_option maxRecDepth 100000 in
theorem rCargo_any (b lo hi : Int) (w : World) :
    Calls Try.prog 21 #[cargoV b lo hi] w fun e w' => e = .returned (.bool (Pure.okCargo b lo hi)) ∧ w' = w.alloc (.cells #[.int .i64 b, .int .i64 lo, .int .i64 hi] 25) := by
  have hF : Hid (Pure.okCargo b lo hi = ((decide (1 ≤ b) && decide (b ≤ 36)) && decide (0 ≤ lo) && decide (lo ≤ hi) && decide (hi ≤ b))) := by
    refine Lib.hid ?_
    unfold Pure.okCargo
    rw [Bool.eq_iff_iff]
    simp
    omega
  obtain ⟨r1, h1⟩ : ∃ r1, (decide (1 ≤ b) && decide (b ≤ 36)) = r1 := ⟨_, rfl⟩
  obtain ⟨r2, h2⟩ : ∃ r2, decide (0 ≤ lo) = r2 := ⟨_, rfl⟩
  obtain ⟨r3, h3⟩ : ∃ r3, decide (lo ≤ hi) = r3 := ⟨_, rfl⟩
  obtain ⟨r4, h4⟩ : ∃ r4, decide (hi ≤ b) = r4 := ⟨_, rfl⟩
  have hG : Hid (Pure.okCargo b lo hi = (r1 && r2 && r3 && r4)) := Lib.hid (by rw [hF.out, h1, h2, h3, h4])
  clear hF
  have H1 := Lib.hid h1
  clear h1
  cases r1 <;> cases r2 <;> cases r3 <;> cases r4
  all_goals
    go_enter Try.func21, Try.ntmps21
    go_wp2_with fail
    refine (rWithin_any b 1 36 _ H1.out _).mono ?_
    rintro e w' ⟨rfl, rfl⟩
    go_wp2_with fail
    go_ret
    exact ⟨ret_bool (by rw [hG.out]; rfl), rfl⟩

set_option maxHeartbeats 1000000 in
set_option maxRecDepth 100000 in
theorem rMay_any (b lo hi d : Int) (w : World) :
    Calls Try.prog 23 #[cargoV b lo hi, .int .i64 d] w fun e w' => e = .returned (.bool (Pure.okIn lo hi d)) ∧ w' = w.alloc (.cells #[.int .i64 b, .int .i64 lo, .int .i64 hi] 25) := by
  obtain ⟨r1, h1⟩ : ∃ r1, (decide (lo ≤ d) && decide (d ≤ hi)) = r1 := ⟨_, rfl⟩
  have hG : Hid (Pure.okIn lo hi d = r1) := by
    subst h1
    refine Lib.hid ?_
    unfold Pure.okIn
    rw [Bool.eq_iff_iff]
    simp
  have H1 := Lib.hid h1
  clear h1
  go_enter Try.func23, Try.ntmps23
  go_wp2_with fail
  refine (rWithin_any d lo hi _ H1.out _).mono ?_
  rintro e w' ⟨rfl, rfl⟩
  go_wp2_with fail
  go_ret
  exact ⟨ret_bool (by rw [hG.out]), rfl⟩

namespace Pure
/-- One factor more. -/
theorem choose_step (a j : Nat) : (ch (a + j) j * ((a : Int) + (j + 1))) / ((j : Int) + 1) = ch (a + (j + 1)) (j + 1) := by
  rw [show a + (j + 1) = a + j + 1 from rfl, show (a : Int) + (j + 1) = (a : Int) + j + 1 by omega]
  have h := ch_absorb (a + j) j
  have e : ((ch (a + j) j : Nat) : Int) * ((a : Int) + j + 1) = ((j : Int) + 1) * ((ch (a + j + 1) (j + 1) : Nat) : Int) := by
    have h2 : (((j + 1) * ch (a + j + 1) (j + 1) : Nat) : Int) = (((a + j + 1) * ch (a + j) j : Nat) : Int) := by rw [h]
    simp only [Int.natCast_mul, Int.natCast_add] at h2
    rw [Int.mul_comm]
    simpa using h2.symm
  rw [e, Int.mul_ediv_cancel_left _ (by omega)]
end Pure

set_option maxHeartbeats 1000000 in
set_option maxRecDepth 100000 in
/-- **Choose**. -/
theorem choose_any (n k : Int) (h36 : n ≤ 36) (w : World) :
    Calls Try.prog 26 #[.int .i64 n, .int .i64 k] w fun e w' => e = .returned (.int .i64 (Pure.sets n k)) ∧ w = w' := by
  by_cases hc : k < 0 ∨ n < k
  · have HF := Lib.hid (Pure.sets_none hc)
    by_cases h : k < 0
    · clear hc
      go_enter Try.func26, Try.ntmps26
      go_wp2_with fail
      go_ret
      exact ⟨ret_int HF.out.symm, rfl⟩
    · have h' : n < k := by omega
      clear hc
      go_enter Try.func26, Try.ntmps26
      go_wp2_with fail
      go_ret
      exact ⟨ret_int HF.out.symm, rfl⟩
  · obtain ⟨m, rfl⟩ : ∃ m : Nat, k = m := ⟨k.toNat, by omega⟩
    obtain ⟨a, rfl⟩ : ∃ a : Nat, n = (a : Int) + m := ⟨(n - m).toNat, by omega⟩
    have HF : Hid (Pure.sets ((a : Int) + m) m = Pure.ch (a + m) m) := Lib.hid (by rw [← Int.natCast_add, Pure.sets_nat])
    clear hc
    have h0 : ¬ (m : Int) < 0 := by omega
    have h1 : ¬ (a : Int) + m < m := by omega
    go_enter Try.func26, Try.ntmps26
    go_wp2_with fail
    go_loop [5, 6] (fun s t => ∃ j : Nat, j ≤ m ∧ s = .int .i64 (Pure.ch (a + j) j) ∧ t = .int .i64 ((j : Int) + 1)) (fun _ t => m + 1 - (intOf t).toNat)
    case atStart => exact ⟨0, Nat.zero_le _, by rw [Pure.ch_zero]; rfl, rfl⟩
    case round =>
      obtain ⟨j, hj, rfl, rfl⟩ := hrel
      by_cases hlt : j < m
      · have hb := Pure.ch_le_pow (a + j) j
        have hb2 : 2 ^ (a + j) ≤ 2 ^ 36 := Nat.pow_le_pow_right (by omega) (by omega)
        have hb3 : (2 : Nat) ^ 36 = 68719476736 := by decide
        have hb4 : Pure.ch (a + j) j ≤ 68719476736 := by omega
        have hm1 : 0 ≤ (Pure.ch (a + j) j : Int) * ((a : Int) + (j + 1)) := Int.mul_nonneg (by omega) (by omega)
        have hm2 : (Pure.ch (a + j) j : Int) * ((a : Int) + (j + 1)) ≤ 68719476736 * 37 := Int.mul_le_mul (by omega) (by omega) (by omega) (by decide)
        have hs := Pure.choose_step a j
        have hp := Pure.ch_le_pow (a + (j + 1)) (j + 1)
        have hp2 : 2 ^ (a + (j + 1)) ≤ 2 ^ 36 := Nat.pow_le_pow_right (by omega) (by omega)
        have hq1 : 0 ≤ (Pure.ch (a + j) j : Int) * ((a : Int) + (j + 1)) / ((j : Int) + 1) := by omega
        have hq2 : (Pure.ch (a + j) j : Int) * ((a : Int) + (j + 1)) / ((j : Int) + 1) ≤ 68719476736 := by omega
        have HS := Lib.hid hs
        clear hb hb2 hb3 hs hp hp2
        go_wp2_with fail
        go_round
        case rel => exact ⟨j + 1, by omega, by rw [HS.out], by go_num⟩
        case measure => simp [intOf]; omega
      · obtain rfl : j = m := by omega
        go_wp2_with fail
        go_ret
        exact ⟨ret_int HF.out.symm, rfl⟩

end Go.Proofs.Ytmhhfopiaimhbaa

namespace Go.Proofs.Ytmhhfopiaimhbaa
open Go.RowKit Go.Shelf

set_option maxHeartbeats 1000000 in
set_option maxRecDepth 100000 in
theorem rCount_any (b d o f : Int) (hb0 : 0 ≤ b) (hb : b ≤ 36) (hd0 : -36 ≤ d) (hd : d ≤ 36) (hbd : b - d ≤ 36) (ho0 : 0 ≤ o) (ho : o ≤ 36) (hf0 : -36 ≤ f) (hf : f ≤ 36) (w : World) :
    Calls Try.prog 40 #[.int .i64 b, .int .i64 d, .int .i64 o, .int .i64 f] w fun e w' => e = .returned (.int .i64 (Pure.ways b d o f)) ∧ w = w' := by
  have hs3 : Pure.sets d f * Pure.sets (b - d) (o - f) ≤ 68719476736 := Pure.ways_le (o := o) (f := f) hb
  have hs4 : 0 ≤ Pure.sets d f * Pure.sets (b - d) (o - f) := Pure.ways_nonneg b d o f
  go_enter Try.func40, Try.ntmps40
  go_wp2_with fail
  refine (choose_any d f hd _).mono ?_
  rintro e w' ⟨rfl, rfl⟩
  go_wp2_with fail
  refine (choose_any (b - d) (o - f) hbd _).mono ?_
  rintro e w' ⟨rfl, rfl⟩
  go_wp2_with fail
  go_ret
  exact ⟨rfl, rfl⟩

namespace Pure
/-- How many sets have at most m dirty bags, counted up to m. -/
def fewTo (b d o : Int) : Nat → Int
  | 0 => 0
  | k + 1 => fewTo b d o k + ways b d o k
theorem fewTo_succ (b d o : Int) (k : Nat) : fewTo b d o (k + 1) = fewTo b d o k + ways b d o k := rfl
theorem fewTo_nonneg (b d o : Int) : ∀ k : Nat, 0 ≤ fewTo b d o k
  | 0 => Int.le_refl _
  | k + 1 => by
    rw [fewTo_succ]
    have := fewTo_nonneg b d o k
    have := ways_nonneg b d o k
    omega
theorem fewTo_le (b d o : Int) (hb : b ≤ 36) : ∀ k : Nat, fewTo b d o k ≤ k * 68719476736
  | 0 => by simp [fewTo]
  | k + 1 => by
    rw [fewTo_succ]
    have := fewTo_le b d o hb k
    have := ways_le (d := d) (o := o) (f := k) hb
    omega
theorem sumTo_ind (b d o m : Int) : ∀ k : Nat, (k : Int) ≤ m + 1 → sumTo b d o (ind m) k = fewTo b d o k
  | 0, _ => rfl
  | k + 1, h => by
    rw [sumTo_succ, fewTo_succ, sumTo_ind b d o m k (by omega), ind_le (by omega), Int.mul_one]
theorem sumTo_ind_more (b d o m : Int) (n : Nat) (hn : (n : Int) = m + 1) : ∀ k : Nat, n ≤ k → sumTo b d o (ind m) k = fewTo b d o n
  | 0, h => by obtain rfl : n = 0 := by omega
               rfl
  | k + 1, h => by
    by_cases e : n = k + 1
    · rw [e]; exact sumTo_ind b d o m (k + 1) (by omega)
    · rw [sumTo_succ, sumTo_ind_more b d o m n hn k (by omega), ind_gt (by omega)]
      simp
theorem few_eq {b d o m : Int} (h0 : 0 ≤ m) (h1 : m ≤ o) : few b d o m = fewTo b d o (m + 1).toNat :=
  sumTo_ind_more b d o m (m + 1).toNat (by omega) _ (by omega)
end Pure

set_option maxHeartbeats 1000000 in
set_option maxRecDepth 100000 in
theorem rFew_any (b d o f : Int) (hb0 : 0 ≤ b) (hb : b ≤ 36) (hd0 : -36 ≤ d) (hd : d ≤ 36) (hbd : b - d ≤ 36) (ho0 : 0 ≤ o) (ho : o ≤ 36) (hf0 : -1 ≤ f) (hf : f ≤ 36) (w : World) :
    Calls Try.prog 25 #[.int .i64 b, .int .i64 d, .int .i64 o, .int .i64 f] w fun e w' => e = .returned (.int .i64 (Pure.fewTo b d o (f + 1).toNat)) ∧ w = w' := by
  obtain ⟨n, hn⟩ : ∃ n : Nat, f = (n : Int) - 1 := ⟨(f + 1).toNat, by omega⟩
  subst hn
  have HE : Hid (((n : Int) - 1 + 1).toNat = n) := Lib.hid (by omega)
  go_enter Try.func25, Try.ntmps25
  go_wp2_with fail
  go_loop [9, 10] (fun s t => ∃ k : Nat, k ≤ n ∧ s = .int .i64 (Pure.fewTo b d o k) ∧ t = .int .i64 k) (fun _ t => n - (intOf t).toNat)
  case atStart => exact ⟨0, Nat.zero_le _, rfl, rfl⟩
  case round =>
    obtain ⟨k, hk, rfl, rfl⟩ := hrel
    by_cases hlt : k < n
    · have h1 := Pure.fewTo_nonneg b d o k
      have h2 := Pure.fewTo_le b d o hb k
      have h3 : Pure.fewTo b d o k ≤ 2542620639232 := by omega
      have h4 := Pure.ways_nonneg b d o k
      have h5 := Pure.ways_le (d := d) (o := o) (f := k) hb
      have h6 : (k : Int) ≤ (n : Int) - 1 := by omega
      clear h2
      go_wp2_with (go_at_call 40; refine (rCount_any b d o k hb0 hb hd0 hd hbd ho0 ho (by omega) (by omega) _).mono ?_; rintro e w' ⟨rfl, rfl⟩)
      go_round
      case rel => exact ⟨k + 1, by omega, rfl, by go_num⟩
      case measure => simp [intOf]; omega
    · obtain rfl : k = n := by omega
      go_wp2_with fail
      go_ret
      exact ⟨ret_int (by first | rfl | rw [HE.out]), rfl⟩

set_option maxHeartbeats 1000000 in
set_option maxRecDepth 100000 in
/-- **Least**, the fraction in lowest terms. -/
theorem rLeast_any (n d : Int) (hn : 0 ≤ n) (hn1 : n ≤ 9223372036854775807) (hd : 0 < d) (hd1 : d ≤ 9223372036854775807) (w : World) :
    Calls Try.prog 24 #[.int .i64 n, .int .i64 d] w fun e w' => e = .returned (partV n d) ∧ Below w.heap.size w w' := by
  have hg1 := Pure.gcd_pos (a := n) hd
  have hg2 := Pure.gcd_le (a := n) hd
  go_enter Try.func24, Try.ntmps24
  go_wp2_with fail
  go_loop [5, 6] (fun s t => ∃ x y : Int, 0 ≤ x ∧ x ≤ 9223372036854775807 ∧ 0 ≤ y ∧ y ≤ 9223372036854775807 ∧ s = .int .i64 x ∧ t = .int .i64 y ∧ Pure.gcd y x = Pure.gcd n d) (fun _ t => (intOf t).toNat)
  case atStart => exact ⟨d, n, by omega, hd1, hn, hn1, rfl, rfl, rfl⟩
  case round =>
    obtain ⟨x, y, hx, hx1, hy, hy1, rfl, rfl, hg⟩ := hrel
    have HG := Lib.hid hg
    clear hg
    by_cases h0 : y = 0
    · subst h0
      have hxe : Pure.gcd 0 x = x := Pure.gcd_zero hx
      obtain rfl : x = Pure.gcd n d := hxe.symm.trans HG.out
      clear hxe hx hx1 hy hy1
      go_wp2_with fail
      go_region
      go_wp2_with fail
      refine bodyPost_ret (v := partV n d) (by simp [results, Try.results24, go_sem]) rfl ⟨rfl, ?_⟩
      repeat (first | exact Below.refl _ _ | refine Below.drew ?_ | refine Below.alloc ?_ (by simp; try omega) _)
    · have hne : (y != 0) = true := by simpa using h0
      have hpos : 0 < y := by omega
      have hm1 := Int.emod_nonneg x h0
      have hm2 := Int.emod_lt_of_pos x hpos
      clear h0
      go_wp2_with fail
      go_round
      case rel => exact ⟨y, x % y, hy, hy1, hm1, by omega, rfl, rfl, by rw [Pure.gcd_step hpos hx]; exact HG.out⟩
      case measure => simp [intOf]; omega

namespace Pure
theorem first3_true {a b c : Bool} (x y z : Int) (ha : a = true) (hb : b = true) (hc : c = true) : first3 (err a x) (err b y) (err c z) = 0 := by
  subst ha; subst hb; subst hc
  rfl
theorem first3_1 {b c : Bool} {x : Int} (y z : Int) (hx : x ≠ 0) : first3 (err false x) (err b y) (err c z) = x := by
  unfold first3
  simp [err_false, hx]
theorem first3_2 {c : Bool} {y : Int} (x z : Int) (hy : y ≠ 0) : first3 (err true x) (err false y) (err c z) = y := by
  unfold first3
  simp [err_false, err_true, hy]
theorem first3_3 {z : Int} (x y : Int) (hz : z ≠ 0) : first3 (err true x) (err true y) (err false z) = z := by
  unfold first3
  simp [err_false, err_true, hz]
end Pure

end Go.Proofs.Ytmhhfopiaimhbaa
