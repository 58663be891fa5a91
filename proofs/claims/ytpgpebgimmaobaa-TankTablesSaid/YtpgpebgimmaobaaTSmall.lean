/-
  The contracts of the small functions of package tank.
-/
import Derived.Test.YtpgpebgimmaobaaTBase
namespace Go.Proofs.Ytpgpebgimmaobaa
open Go.RowKit

theorem height_any (a : Option Addr) (len cap : Nat) (lk ft : Int) (hl : len ≤ 40) (w : World) :
    Calls Try.prog 16 #[tankV a len cap lk ft] w fun e w' => e = .returned (.int .i64 (8 * ((len : Int) - 1))) ∧ w' = w.alloc (tankB a len cap lk ft) := by
  go_enter Try.func16, Try.ntmps16
  go_wp2_with fail
  go_ret
  exact ⟨rfl, rfl⟩
theorem rHeight_any (a : Option Addr) (len cap : Nat) (lk ft : Int) (hl : len ≤ 40) (w : World) :
    Calls Try.prog 21 #[tankV a len cap lk ft] w fun e w' => e = .returned (.int .i64 (8 * ((len : Int) - 1))) ∧ w' = w.alloc (tankB a len cap lk ft) := by
  go_enter Try.func21, Try.ntmps21
  go_wp2_with fail
  go_ret
  exact ⟨rfl, rfl⟩
theorem full_any (a : Option Addr) (n cap : Nat) (F : Nat → Int) (lk ft : Int) (hl : n ≤ 40) (w : World) (h : NumsAt w a (n + 1) F) :
    Calls Try.prog 33 #[tankV a (n + 1) cap lk ft] w fun e w' => e = .returned (.int .i64 (F n)) ∧ w' = w.alloc (tankB a (n + 1) cap lk ft) := by
  obtain ⟨b, off, rfl, hc⟩ := h n (by omega)
  have hc1 := cell_up hc (tankB (some ⟨b, off, none⟩) (n + 1) cap lk ft)
  go_enter Try.func33, Try.ntmps33
  go_wp2_with fail
  go_ret
  exact ⟨rfl, rfl⟩
theorem rFull_any (a : Option Addr) (n cap : Nat) (F : Nat → Int) (lk ft : Int) (hl : n ≤ 40) (w : World) (h : NumsAt w a (n + 1) F) :
    Calls Try.prog 26 #[tankV a (n + 1) cap lk ft] w fun e w' => e = .returned (.int .i64 (F n)) ∧ w' = w.alloc (tankB a (n + 1) cap lk ft) := by
  obtain ⟨b, off, rfl, hc⟩ := h n (by omega)
  have hc1 := cell_up hc (tankB (some ⟨b, off, none⟩) (n + 1) cap lk ft)
  go_enter Try.func26, Try.ntmps26
  go_wp2_with fail
  go_ret
  exact ⟨rfl, rfl⟩
abbrev partV (n d : Int) : Value := .agg #[.int .i64 (n / Pure.gcd n d), .int .i64 (d / Pure.gcd n d)]

namespace Pure
/-- Whether all of some numbers are in a span. -/
def within (lo hi : Int) (l : List Int) : Bool := l.all fun z => decide (lo ≤ z) && decide (z ≤ hi)
theorem within_snoc (lo hi : Int) (zs : List Int) (k : Nat) (h : k < zs.length) (h0 : within lo hi (zs.take k) = true) (h1 : lo ≤ zs[k]?.getD 0) (h2 : zs[k]?.getD 0 ≤ hi) : within lo hi (zs.take (k + 1)) = true := by
  unfold within at *
  rw [List.take_succ_eq_append_getElem h, List.all_append, h0]
  have e : zs[k]?.getD 0 = zs[k] := by simp [h]
  rw [e] at h1 h2
  simp [h1, h2]
theorem within_no (lo hi : Int) (zs : List Int) (k : Nat) (h : k < zs.length) (h1 : zs[k]?.getD 0 < lo ∨ hi < zs[k]?.getD 0) : within lo hi zs = false := by
  have e : zs[k]?.getD 0 = zs[k] := by simp [h]
  rw [e] at h1
  unfold within
  rw [List.all_eq_false]
  exact ⟨zs[k], List.getElem_mem h, by simp; omega⟩
/-- A span of numbers from 0 on. -/
def okSpan (most x y : Int) : Bool := decide (0 ≤ x ∧ x ≤ y ∧ y ≤ most)
end Pure

set_option maxHeartbeats 1000000 in
set_option maxRecDepth 100000 in
theorem within_any (lo hi : Int) (b len cap : Nat) (zs : List Int) (hz : zs.length = len) (hl : len ≤ 9223372036854775807) (w : World)
    (hc : ∀ j, j < len → w.cell? ⟨b, j, none⟩ = some (.int .i64 (zs[j]?.getD 0))) :
    Calls Try.prog 15 #[.agg #[.int .i64 lo, .int .i64 hi], .slice (some ⟨b, 0, none⟩) len cap] w fun e w' =>
      e = .returned (.bool (Pure.within lo hi zs)) ∧ w' = w.alloc (.cells #[.int .i64 lo, .int .i64 hi] 26) := by
  have hlt : ∀ j, j < len → b < w.heap.size := fun j hj => World.block_lt_of_cell? w _ (hc j hj)
  have HC := Lib.hid hc
  have HL := Lib.hid hlt
  have HZ := Lib.hid hz
  clear hc hlt hz
  go_enter Try.func15, Try.ntmps15
  go_wp2_with fail
  go_loop [6, 9] (fun _ i => ∃ k : Nat, k ≤ len ∧ i = .int .i64 k ∧ Pure.within lo hi (zs.take k) = true) (fun _ i => len - (intOf i).toNat)
  case atStart => exact ⟨0, Nat.zero_le _, rfl, rfl⟩
  case round =>
    obtain ⟨k, hk, rfl, hW⟩ := hrel
    have HW := Lib.hid hW
    clear hW
    by_cases hk1 : k < len
    · have hb := HL.out k hk1
      have hc1 := (World.cell?_alloc_lt w (.cells #[.int .i64 lo, .int .i64 hi] 26) ⟨b, k, none⟩ hb).trans (HC.out k hk1)
      by_cases h1 : zs[k]?.getD 0 < lo
      · go_wp2_with fail
        go_ret
        exact ⟨ret_bool (Pure.within_no lo hi zs k (by rw [HZ.out]; exact hk1) (.inl h1)).symm, rfl⟩
      · by_cases h2 : hi < zs[k]?.getD 0
        · go_wp2_with fail
          go_ret
          exact ⟨ret_bool (Pure.within_no lo hi zs k (by rw [HZ.out]; exact hk1) (.inr h2)).symm, rfl⟩
        · go_wp2_with fail
          go_round
          case rel => exact ⟨k + 1, by omega, by go_num, Pure.within_snoc lo hi zs k (by rw [HZ.out]; exact hk1) HW.out (by omega) (by omega)⟩
          case measure => simp [intOf]; omega
    · obtain rfl : k = len := by omega
      go_wp2_with fail
      go_ret
      exact ⟨ret_bool (by have := HW.out; rw [← HZ.out, List.take_length] at this; exact this.symm), rfl⟩

theorem unless_any (so : Bool) (n : Int) (w : World) : Calls Try.prog 34 #[.bool so, .int .i64 n] w fun e w' => e = .returned (.int .i64 (Pure.err so n)) ∧ w = w' := by
  cases so
  · go_enter Try.func34, Try.ntmps34
    go_wp2_with fail
    go_ret
    exact ⟨rfl, rfl⟩
  · go_enter Try.func34, Try.ntmps34
    go_wp2_with fail
    go_ret
    exact ⟨rfl, rfl⟩

/-- within at one number. -/
theorem within1 (lo hi a : Int) (b cap : Nat) (w : World) (h0 : w.cell? ⟨b, 0, none⟩ = some (.int .i64 a)) (r : Bool) (hr : (decide (lo ≤ a) && decide (a ≤ hi)) = r) :
    Calls Try.prog 15 #[.agg #[.int .i64 lo, .int .i64 hi], .slice (some ⟨b, 0, none⟩) 1 cap] w fun e w' =>
      e = .returned (.bool r) ∧ w' = w.alloc (.cells #[.int .i64 lo, .int .i64 hi] 26) := by
  refine (within_any lo hi b 1 cap [a] rfl (by omega) w (fun j hj => ?_)).mono ?_
  · obtain rfl : j = 0 := by omega
    exact h0
  · rintro e w' ⟨rfl, rfl⟩
    exact ⟨ret_bool (by rw [← hr]; simp [Pure.within]), rfl⟩

/-- within at two numbers. -/
theorem within2 (lo hi a c : Int) (b cap : Nat) (w : World) (h0 : w.cell? ⟨b, 0, none⟩ = some (.int .i64 a)) (h1 : w.cell? ⟨b, 1, none⟩ = some (.int .i64 c)) (r : Bool)
    (hr : (decide (lo ≤ a) && decide (a ≤ hi) && (decide (lo ≤ c) && decide (c ≤ hi))) = r) :
    Calls Try.prog 15 #[.agg #[.int .i64 lo, .int .i64 hi], .slice (some ⟨b, 0, none⟩) 2 cap] w fun e w' =>
      e = .returned (.bool r) ∧ w' = w.alloc (.cells #[.int .i64 lo, .int .i64 hi] 26) := by
  refine (within_any lo hi b 2 cap [a, c] rfl (by omega) w (fun j hj => ?_)).mono ?_
  · have : j = 0 ∨ j = 1 := by omega
    rcases this with rfl | rfl
    · exact h0
    · exact h1
  · rintro e w' ⟨rfl, rfl⟩
    exact ⟨ret_bool (by rw [← hr]; simp [Pure.within]), rfl⟩

set_option maxHeartbeats 1000000 in
set_option maxRecDepth 100000 in
/-- **divisor**. -/
theorem divisor_any (a b : Int) (ha : 0 ≤ a) (ha1 : a ≤ 9223372036854775807) (hb : 0 ≤ b) (hb1 : b ≤ 9223372036854775807) (w : World) :
    Calls Try.prog 35 #[.int .i64 a, .int .i64 b] w fun e w' => e = .returned (.int .i64 (Pure.gcd a b)) ∧ w = w' := by
  go_enter Try.func35, Try.ntmps35
  go_wp2_with fail
  go_loop [0, 1] (fun s t => ∃ x y : Int, 0 ≤ x ∧ x ≤ 9223372036854775807 ∧ 0 ≤ y ∧ y ≤ 9223372036854775807 ∧ s = .int .i64 x ∧ t = .int .i64 y ∧ Pure.gcd x y = Pure.gcd a b) (fun s _ => (intOf s).toNat)
  case atStart => exact ⟨a, b, ha, ha1, hb, hb1, rfl, rfl, rfl⟩
  case round =>
    obtain ⟨x, y, hx, hx1, hy, hy1, rfl, rfl, hg⟩ := hrel
    have HG := Lib.hid hg
    clear hg ha ha1 hb hb1
    by_cases h0 : x = 0
    · subst h0
      go_wp2_with fail
      go_ret
      exact ⟨ret_int (by rw [← HG.out, Pure.gcd_zero hy]), rfl⟩
    · have hne : (x != 0) = true := by simpa using h0
      have hpos : 0 < x := by omega
      have hm1 := Int.emod_nonneg y h0
      have hm2 := Int.emod_lt_of_pos y hpos
      clear h0
      go_wp2_with fail
      go_round
      case rel => exact ⟨y % x, x, hm1, by omega, hx, hx1, rfl, rfl, by rw [Pure.gcd_step hpos hy]; exact HG.out⟩
      case measure => simp [intOf]; omega

set_option maxHeartbeats 1000000 in
set_option maxRecDepth 100000 in
/-- **part**: a fraction in lowest terms. -/
theorem part_any (a b : Int) (ha : 0 ≤ a) (ha1 : a ≤ 9223372036854775807) (hb : 0 < b) (hb1 : b ≤ 9223372036854775807) (w : World) :
    Calls Try.prog 17 #[.int .i64 a, .int .i64 b] w fun e w' => e = .returned (.agg #[.int .i64 (a / Pure.gcd a b), .int .i64 (b / Pure.gcd a b)]) ∧ Below w.heap.size w w' := by
  have hg1 := Pure.gcd_pos (a := a) hb
  have hg2 := Pure.gcd_le (a := a) hb
  go_enter Try.func17, Try.ntmps17
  go_wp2_with (go_at_call 35; refine (divisor_any _ _ (by omega) (by omega) (by omega) (by omega) _).mono ?_; rintro e w' ⟨rfl, rfl⟩)
  go_region
  go_wp2_with fail
  refine bodyPost_ret (v := .agg #[.int .i64 (a / Pure.gcd a b), .int .i64 (b / Pure.gcd a b)]) (by simp [results, Try.results17, go_sem]) rfl ⟨rfl, ?_⟩
  repeat (first | exact Below.refl _ _ | refine Below.drew ?_ | refine Below.alloc ?_ (by simp; try omega) _)

set_option maxHeartbeats 1000000 in
set_option maxRecDepth 100000 in
/-- **Least**, the fraction in lowest terms. -/
theorem rLeast_any (n d : Int) (hn : 0 ≤ n) (hn1 : n ≤ 9223372036854775807) (hd : 0 < d) (hd1 : d ≤ 9223372036854775807) (w : World) :
    Calls Try.prog 22 #[.int .i64 n, .int .i64 d] w fun e w' => e = .returned (partV n d) ∧ Below w.heap.size w w' := by
  have hg1 := Pure.gcd_pos (a := n) hd
  have hg2 := Pure.gcd_le (a := n) hd
  go_enter Try.func22, Try.ntmps22
  go_wp2_with fail
  go_loop [5, 6] (fun s t => ∃ x y : Int, 0 ≤ x ∧ x ≤ 9223372036854775807 ∧ 0 ≤ y ∧ y ≤ 9223372036854775807 ∧ s = .int .i64 x ∧ t = .int .i64 y ∧ Pure.gcd y x = Pure.gcd n d) (fun _ t => (intOf t).toNat)
  case atStart => exact ⟨d, n, by omega, hd1, hn, hn1, rfl, rfl, rfl⟩
  case round =>
    obtain ⟨x, y, hx, hx1, hy, hy1, rfl, rfl, hg⟩ := hrel
    have HG := Lib.hid hg
    clear hg
    by_cases h0 : y = 0
    · subst h0
      have hxe : Pure.gcd 0 x = x := Pure.gcd_zero hx
      obtain rfl : x = Pure.gcd n d := hxe.symm.trans HG.out
      clear hxe hx hx1 hy hy1
      go_wp2_with fail
      go_region
      go_wp2_with fail
      refine bodyPost_ret (v := partV n d) (by simp [results, Try.results22, go_sem]) rfl ⟨rfl, ?_⟩
      repeat (first | exact Below.refl _ _ | refine Below.drew ?_ | refine Below.alloc ?_ (by simp; try omega) _)
    · have hne : (y != 0) = true := by simpa using h0
      have hpos : 0 < y := by omega
      have hm1 := Int.emod_nonneg x h0
      have hm2 := Int.emod_lt_of_pos x hpos
      clear h0
      go_wp2_with fail
      go_round
      case rel => exact ⟨y, x % y, hy, hy1, hm1, by omega, rfl, rfl, by rw [Pure.gcd_step hpos hx]; exact HG.out⟩
      case measure => simp [intOf]; omega


theorem up_any (n : Int) (h0 : 0 ≤ n) (h1 : n ≤ 1000000) (w : World) : Calls Try.prog 36 #[.int .i64 n] w fun e w' => e = .returned (.int .i64 ((n + 7) / 8)) ∧ w = w' := by
  go_enter Try.func36, Try.ntmps36
  go_wp2_with fail
  go_ret
  exact ⟨ret_int (by omega), rfl⟩
theorem down_any (n : Int) (h0 : 0 ≤ n) (h1 : n ≤ 1000000) (w : World) : Calls Try.prog 37 #[.int .i64 n] w fun e w' => e = .returned (.int .i64 (n / 8)) ∧ w = w' := by
  go_enter Try.func37, Try.ntmps37
  go_wp2_with fail
  go_ret
  exact ⟨ret_int (by omega), rfl⟩
theorem isSpan_any (x y : Int) (w : World) : Calls Try.prog 29 #[spanV x y] w fun e w' => e = .returned (.bool (decide (x ≤ y))) ∧ w' = w.alloc (spanB x y) := by
  go_enter Try.func29, Try.ntmps29
  go_wp2_with fail
  go_ret
  exact ⟨rfl, rfl⟩
theorem rWithin_any (n lo hi : Int) (w : World) : Calls Try.prog 20 #[.int .i64 n, .int .i64 lo, .int .i64 hi] w fun e w' => e = .returned (.bool (decide (lo ≤ n ∧ n ≤ hi))) ∧ w = w' := by
  go_enter Try.func20, Try.ntmps20
  by_cases h : lo ≤ n
  · go_wp2_with fail
    go_ret
    exact ⟨ret_bool (by simp [h]), rfl⟩
  · go_wp2_with fail
    go_ret
    exact ⟨ret_bool (by simp; omega), rfl⟩
theorem spanned_any (x y m : Int) (w : World) : Calls Try.prog 30 #[spanV x y, .int .i64 m] w fun e w' => e = .returned (.bool (Pure.okSpan m x y)) ∧ w' = w.alloc (spanB x y) := by
  unfold Pure.okSpan
  go_enter Try.func30, Try.ntmps30
  by_cases h : 0 ≤ x
  · by_cases h2 : x ≤ y
    · go_wp2_with fail
      go_ret
      exact ⟨ret_bool (by simp [h, h2]), rfl⟩
    · go_wp2_with fail
      go_ret
      exact ⟨ret_bool (by simp; omega), rfl⟩
  · go_wp2_with fail
    go_ret
    exact ⟨ret_bool (by simp; omega), rfl⟩
theorem great_any (a : Option Addr) (len cap : Nat) (lk ft : Int) (w : World) :
    Calls Try.prog 4 #[tankV a len cap lk ft] w fun e w' => e = .returned (.bool (decide ((40 : Int) < len))) ∧ w' = w.alloc (tankB a len cap lk ft) := by
  go_enter Try.func4, Try.ntmps4
  go_wp2_with fail
  go_ret
  exact ⟨rfl, rfl⟩
set_option maxHeartbeats 1000000 in
set_option maxRecDepth 100000 in
theorem isSpanTo_any (m x y : Int) (w : World) : Calls Try.prog 27 #[.int .i64 m, spanV x y] w fun e w' => e = .returned (.bool (Pure.okSpan m x y)) ∧ Below w.heap.size w w' := by
  unfold Pure.okSpan
  go_enter Try.func27, Try.ntmps27
  go_wp2_with fail
  refine (within2 0 m x y _ _ _ (cells_top _ _ _ (by simp) 0) (cells_top _ _ _ (by simp) 1) _ rfl).mono ?_
  rintro e w' ⟨rfl, rfl⟩
  by_cases h : (decide (0 ≤ x) && decide (x ≤ m) && (decide (0 ≤ y) && decide (y ≤ m))) = true
  · rw [h]
    go_wp2_with (go_at_call 29; refine (isSpan_any _ _ _).mono ?_; rintro e w' ⟨rfl, rfl⟩)
    go_ret
    simp only [Bool.and_eq_true, decide_eq_true_eq] at h
    exact ⟨ret_bool (by rw [decide_eq_decide]; omega), by repeat (first | exact Below.refl _ _ | refine Below.alloc ?_ (by simp; try omega) _)⟩
  · replace h : (decide (0 ≤ x) && decide (x ≤ m) && (decide (0 ≤ y) && decide (y ≤ m))) = false := by simpa using h
    rw [h]
    go_wp2_with fail
    go_ret
    have h2 : ¬ (0 ≤ x ∧ x ≤ y ∧ y ≤ m) := fun g => by
      have : (decide (0 ≤ x) && decide (x ≤ m) && (decide (0 ≤ y) && decide (y ≤ m))) = true := by simp; omega
      rw [this] at h
      cases h
    exact ⟨ret_bool (by simp [h2]), by repeat (first | exact Below.refl _ _ | refine Below.alloc ?_ (by simp; try omega) _)⟩

end Go.Proofs.Ytpgpebgimmaobaa
