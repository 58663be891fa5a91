/-
  The contracts of the specification's own functions, second part: ways, chances, fractions.
-/
import Derived.Test.YtnldipniaphmgaaRefA
namespace Go.Proofs.Ytnldipniaphmgaa
open Go.RowKit Go.Shelf

set_option maxHeartbeats 1000000 in
set_option maxRecDepth 100000 in
theorem rCount_any (b d o f : Int) (hb0 : 0 ≤ b) (hb : b ≤ 36) (hd0 : -36 ≤ d) (hd : d ≤ 36) (hbd : b - d ≤ 36) (ho0 : 0 ≤ o) (ho : o ≤ 36) (hf0 : -36 ≤ f) (hf : f ≤ 36) (w : World) :
    Calls Try.prog 73 #[.int .i64 b, .int .i64 d, .int .i64 o, .int .i64 f] w fun e w' => e = .returned (.int .i64 (Pure.ways b d o f)) ∧ w = w' := by
  have hs3 : Pure.sets d f * Pure.sets (b - d) (o - f) ≤ 68719476736 := Pure.ways_le (o := o) (f := f) hb
  have hs4 : 0 ≤ Pure.sets d f * Pure.sets (b - d) (o - f) := Pure.ways_nonneg b d o f
  go_enter Try.func73, Try.ntmps73
  go_wp2_with fail
  refine (choose_any d f hd _).mono ?_
  rintro e w' ⟨rfl, rfl⟩
  go_wp2_with fail
  refine (choose_any (b - d) (o - f) hbd _).mono ?_
  rintro e w' ⟨rfl, rfl⟩
  go_wp2_with fail
  go_ret
  exact ⟨rfl, rfl⟩

namespace Pure
/-- How many sets have at most m dirty bags, counted up to m. -/
def fewTo (b d o : Int) : Nat → Int
  | 0 => 0
  | k + 1 => fewTo b d o k + ways b d o k
theorem fewTo_succ (b d o : Int) (k : Nat) : fewTo b d o (k + 1) = fewTo b d o k + ways b d o k := rfl
theorem fewTo_nonneg (b d o : Int) : ∀ k : Nat, 0 ≤ fewTo b d o k
  | 0 => Int.le_refl _
  | k + 1 => by
    rw [fewTo_succ]
    have := fewTo_nonneg b d o k
    have := ways_nonneg b d o k
    omega
theorem fewTo_le (b d o : Int) (hb : b ≤ 36) : ∀ k : Nat, fewTo b d o k ≤ k * 68719476736
  | 0 => by simp [fewTo]
  | k + 1 => by
    rw [fewTo_succ]
    have := fewTo_le b d o hb k
    have := ways_le (d := d) (o := o) (f := k) hb
    omega
theorem sumTo_ind (b d o m : Int) : ∀ k : Nat, (k : Int) ≤ m + 1 → sumTo b d o (ind m) k = fewTo b d o k
  | 0, _ => rfl
  | k + 1, h => by
    rw [sumTo_succ, fewTo_succ, sumTo_ind b d o m k (by omega), ind_le (by omega), Int.mul_one]
theorem sumTo_ind_more (b d o m : Int) (n : Nat) (hn : (n : Int) = m + 1) : ∀ k : Nat, n ≤ k → sumTo b d o (ind m) k = fewTo b d o n
  | 0, h => by obtain rfl : n = 0 := by omega
               rfl
  | k + 1, h => by
    by_cases e : n = k + 1
    · rw [e]; exact sumTo_ind b d o m (k + 1) (by omega)
    · rw [sumTo_succ, sumTo_ind_more b d o m n hn k (by omega), ind_gt (by omega)]
      simp
theorem few_eq {b d o m : Int} (h0 : 0 ≤ m) (h1 : m ≤ o) : few b d o m = fewTo b d o (m + 1).toNat :=
  sumTo_ind_more b d o m (m + 1).toNat (by omega) _ (by omega)
end Pure

set_option maxHeartbeats 1000000 in
set_option maxRecDepth 100000 in
theorem rFew_any (b d o f : Int) (hb0 : 0 ≤ b) (hb : b ≤ 36) (hd0 : -36 ≤ d) (hd : d ≤ 36) (hbd : b - d ≤ 36) (ho0 : 0 ≤ o) (ho : o ≤ 36) (hf0 : -1 ≤ f) (hf : f ≤ 36) (w : World) :
    Calls Try.prog 59 #[.int .i64 b, .int .i64 d, .int .i64 o, .int .i64 f] w fun e w' => e = .returned (.int .i64 (Pure.fewTo b d o (f + 1).toNat)) ∧ w = w' := by
  obtain ⟨n, hn⟩ : ∃ n : Nat, f = (n : Int) - 1 := ⟨(f + 1).toNat, by omega⟩
  subst hn
  have HE : Hid (((n : Int) - 1 + 1).toNat = n) := Lib.hid (by omega)
  go_enter Try.func59, Try.ntmps59
  go_wp2_with fail
  go_loop [9, 10] (fun s t => ∃ k : Nat, k ≤ n ∧ s = .int .i64 (Pure.fewTo b d o k) ∧ t = .int .i64 k) (fun _ t => n - (intOf t).toNat)
  case atStart => exact ⟨0, Nat.zero_le _, rfl, rfl⟩
  case round =>
    obtain ⟨k, hk, rfl, rfl⟩ := hrel
    by_cases hlt : k < n
    · have h1 := Pure.fewTo_nonneg b d o k
      have h2 := Pure.fewTo_le b d o hb k
      have h3 : Pure.fewTo b d o k ≤ 2542620639232 := by omega
      have h4 := Pure.ways_nonneg b d o k
      have h5 := Pure.ways_le (d := d) (o := o) (f := k) hb
      have h6 : (k : Int) ≤ (n : Int) - 1 := by omega
      clear h2
      go_wp2_with (go_at_call 73; refine (rCount_any b d o k hb0 hb hd0 hd hbd ho0 ho (by omega) (by omega) _).mono ?_; rintro e w' ⟨rfl, rfl⟩)
      go_round
      case rel => exact ⟨k + 1, by omega, rfl, by go_num⟩
      case measure => simp [intOf]; omega
    · obtain rfl : k = n := by omega
      go_wp2_with fail
      go_ret
      exact ⟨ret_int (by first | rfl | rw [HE.out]), rfl⟩

set_option maxHeartbeats 1000000 in
set_option maxRecDepth 100000 in
/-- **Least**, the fraction in lowest terms. -/
theorem rLeast_any (n d : Int) (hn : 0 ≤ n) (hn1 : n ≤ 9223372036854775807) (hd : 0 < d) (hd1 : d ≤ 9223372036854775807) (w : World) :
    Calls Try.prog 37 #[.int .i64 n, .int .i64 d] w fun e w' => e = .returned (partV n d) ∧ Below w.heap.size w w' := by
  have hg1 := Pure.gcd_pos (a := n) hd
  have hg2 := Pure.gcd_le (a := n) hd
  go_enter Try.func37, Try.ntmps37
  go_wp2_with fail
  go_loop [5, 6] (fun s t => ∃ x y : Int, 0 ≤ x ∧ x ≤ 9223372036854775807 ∧ 0 ≤ y ∧ y ≤ 9223372036854775807 ∧ s = .int .i64 x ∧ t = .int .i64 y ∧ Pure.gcd y x = Pure.gcd n d) (fun _ t => (intOf t).toNat)
  case atStart => exact ⟨d, n, by omega, hd1, hn, hn1, rfl, rfl, rfl⟩
  case round =>
    obtain ⟨x, y, hx, hx1, hy, hy1, rfl, rfl, hg⟩ := hrel
    have HG := Lib.hid hg
    clear hg
    by_cases h0 : y = 0
    · subst h0
      have hxe : Pure.gcd 0 x = x := Pure.gcd_zero hx
      obtain rfl : x = Pure.gcd n d := hxe.symm.trans HG.out
      clear hxe hx hx1 hy hy1
      go_wp2_with fail
      go_region
      go_wp2_with fail
      refine bodyPost_ret (v := partV n d) (by simp [results, Try.results37, go_sem]) rfl ⟨rfl, ?_⟩
      repeat (first | exact Below.refl _ _ | refine Below.drew ?_ | refine Below.alloc ?_ (by simp; try omega) _)
    · have hne : (y != 0) = true := by simpa using h0
      have hpos : 0 < y := by omega
      have hm1 := Int.emod_nonneg x h0
      have hm2 := Int.emod_lt_of_pos x hpos
      clear h0
      go_wp2_with fail
      go_round
      case rel => exact ⟨y, x % y, hy, hy1, hm1, by omega, rfl, rfl, by rw [Pure.gcd_step hpos hx]; exact HG.out⟩
      case measure => simp [intOf]; omega

namespace Pure
theorem first3_true {a b c : Bool} (x y z : Int) (ha : a = true) (hb : b = true) (hc : c = true) : first3 (err a x) (err b y) (err c z) = 0 := by
  subst ha; subst hb; subst hc
  rfl
theorem first3_1 {b c : Bool} {x : Int} (y z : Int) (hx : x ≠ 0) : first3 (err false x) (err b y) (err c z) = x := by
  unfold first3
  simp [err_false, hx]
theorem first3_2 {c : Bool} {y : Int} (x z : Int) (hy : y ≠ 0) : first3 (err true x) (err false y) (err c z) = y := by
  unfold first3
  simp [err_false, err_true, hy]
theorem first3_3 {z : Int} (x y : Int) (hz : z ≠ 0) : first3 (err true x) (err true y) (err false z) = z := by
  unfold first3
  simp [err_false, err_true, hz]
end Pure

end Go.Proofs.Ytnldipniaphmgaa
