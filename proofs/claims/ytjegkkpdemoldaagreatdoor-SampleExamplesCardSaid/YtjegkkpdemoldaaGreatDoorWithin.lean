/-
  The contracts of within, unless, and the checks of package sample.
  The contracts of divisor and part: fractions in lowest terms.
-/
import Derived.Test.YtjegkkpdemoldaaGreatDoorBase
import Derived.RegionTactic

namespace Go.Proofs.YtjegkkpdemoldaaGreatDoor
open Go.RowKit

namespace Pure
/-- An error unless something is so. -/
def err (so : Bool) (n : Int) : Int := if so then 0 else n
theorem err_true (n : Int) : err true n = 0 := rfl
theorem err_false (n : Int) : err false n = n := rfl
/-- Whether all of some numbers are in a span. -/
def within (lo hi : Int) (l : List Int) : Bool := l.all fun z => decide (lo ≤ z) && decide (z ≤ hi)
theorem within_snoc (lo hi : Int) (zs : List Int) (k : Nat) (h : k < zs.length) (h0 : within lo hi (zs.take k) = true) (h1 : lo ≤ zs[k]?.getD 0) (h2 : zs[k]?.getD 0 ≤ hi) : within lo hi (zs.take (k + 1)) = true := by
  unfold within at *
  rw [List.take_succ_eq_append_getElem h, List.all_append, h0]
  have e : zs[k]?.getD 0 = zs[k] := by simp [h]
  rw [e] at h1 h2
  simp [h1, h2]
theorem within_no (lo hi : Int) (zs : List Int) (k : Nat) (h : k < zs.length) (h1 : zs[k]?.getD 0 < lo ∨ hi < zs[k]?.getD 0) : within lo hi zs = false := by
  have e : zs[k]?.getD 0 = zs[k] := by simp [h]
  rw [e] at h1
  unfold within
  rw [List.all_eq_false]
  exact ⟨zs[k], List.getElem_mem h, by simp; omega⟩
end Pure

set_option maxHeartbeats 1000000 in
set_option maxRecDepth 100000 in
theorem within_any (lo hi : Int) (b len cap : Nat) (zs : List Int) (hz : zs.length = len) (hl : len ≤ 9223372036854775807) (w : World)
    (hc : ∀ j, j < len → w.cell? ⟨b, j, none⟩ = some (.int .i64 (zs[j]?.getD 0))) :
    Calls Tryz.prog 55 #[.agg #[.int .i64 lo, .int .i64 hi], .slice (some ⟨b, 0, none⟩) len cap] w fun e w' =>
      e = .returned (.bool (Pure.within lo hi zs)) ∧ w' = w.alloc (.cells #[.int .i64 lo, .int .i64 hi] 26) := by
  have hlt : ∀ j, j < len → b < w.heap.size := fun j hj => World.block_lt_of_cell? w _ (hc j hj)
  have HC := Lib.hid hc
  have HL := Lib.hid hlt
  have HZ := Lib.hid hz
  clear hc hlt hz
  go_enter Tryz.func55, Tryz.ntmps55
  go_wp2_with fail
  go_loop [6, 9] (fun _ i => ∃ k : Nat, k ≤ len ∧ i = .int .i64 k ∧ Pure.within lo hi (zs.take k) = true) (fun _ i => len - (intOf i).toNat)
  case atStart => exact ⟨0, Nat.zero_le _, rfl, rfl⟩
  case round =>
    obtain ⟨k, hk, rfl, hW⟩ := hrel
    have HW := Lib.hid hW
    clear hW
    by_cases hk1 : k < len
    · have hb := HL.out k hk1
      have hc1 := (World.cell?_alloc_lt w (.cells #[.int .i64 lo, .int .i64 hi] 26) ⟨b, k, none⟩ hb).trans (HC.out k hk1)
      by_cases h1 : zs[k]?.getD 0 < lo
      · go_wp2_with fail
        go_ret
        exact ⟨ret_bool (Pure.within_no lo hi zs k (by rw [HZ.out]; exact hk1) (.inl h1)).symm, rfl⟩
      · by_cases h2 : hi < zs[k]?.getD 0
        · go_wp2_with fail
          go_ret
          exact ⟨ret_bool (Pure.within_no lo hi zs k (by rw [HZ.out]; exact hk1) (.inr h2)).symm, rfl⟩
        · go_wp2_with fail
          go_round
          case rel => exact ⟨k + 1, by omega, by go_num, Pure.within_snoc lo hi zs k (by rw [HZ.out]; exact hk1) HW.out (by omega) (by omega)⟩
          case measure => simp [intOf]; omega
    · obtain rfl : k = len := by omega
      go_wp2_with fail
      go_ret
      exact ⟨ret_bool (by have := HW.out; rw [← HZ.out, List.take_length] at this; exact this.symm), rfl⟩

theorem unless_any (so : Bool) (n : Int) (w : World) : Calls Tryz.prog 45 #[.bool so, .int .i64 n] w fun e w' => e = .returned (.int .i64 (Pure.err so n)) ∧ w = w' := by
  cases so
  · go_enter Tryz.func45, Tryz.ntmps45
    go_wp2_with fail
    go_ret
    exact ⟨rfl, rfl⟩
  · go_enter Tryz.func45, Tryz.ntmps45
    go_wp2_with fail
    go_ret
    exact ⟨rfl, rfl⟩

theorem cells_top (w : World) (arr : Array Value) (t : TypeId) {b : Nat} (hb : b = w.heap.size) (j : Nat) : (w.alloc (.cells arr t)).cell? ⟨b, j, none⟩ = arr[j]? := by
  subst hb
  have h := (MapKept.heap_alloc w (.cells arr t)).1
  unfold World.cell?
  simp only [h]
  rfl

/-- within at one number. -/
theorem within1 (lo hi a : Int) (b cap : Nat) (w : World) (h0 : w.cell? ⟨b, 0, none⟩ = some (.int .i64 a)) (r : Bool) (hr : (decide (lo ≤ a) && decide (a ≤ hi)) = r) :
    Calls Tryz.prog 55 #[.agg #[.int .i64 lo, .int .i64 hi], .slice (some ⟨b, 0, none⟩) 1 cap] w fun e w' =>
      e = .returned (.bool r) ∧ w' = w.alloc (.cells #[.int .i64 lo, .int .i64 hi] 26) := by
  refine (within_any lo hi b 1 cap [a] rfl (by omega) w (fun j hj => ?_)).mono ?_
  · obtain rfl : j = 0 := by omega
    exact h0
  · rintro e w' ⟨rfl, rfl⟩
    exact ⟨ret_bool (by rw [← hr]; simp [Pure.within]), rfl⟩

/-- within at two numbers. -/
theorem within2 (lo hi a c : Int) (b cap : Nat) (w : World) (h0 : w.cell? ⟨b, 0, none⟩ = some (.int .i64 a)) (h1 : w.cell? ⟨b, 1, none⟩ = some (.int .i64 c)) (r : Bool)
    (hr : (decide (lo ≤ a) && decide (a ≤ hi) && (decide (lo ≤ c) && decide (c ≤ hi))) = r) :
    Calls Tryz.prog 55 #[.agg #[.int .i64 lo, .int .i64 hi], .slice (some ⟨b, 0, none⟩) 2 cap] w fun e w' =>
      e = .returned (.bool r) ∧ w' = w.alloc (.cells #[.int .i64 lo, .int .i64 hi] 26) := by
  refine (within_any lo hi b 2 cap [a, c] rfl (by omega) w (fun j hj => ?_)).mono ?_
  · have : j = 0 ∨ j = 1 := by omega
    rcases this with rfl | rfl
    · exact h0
    · exact h1
  · rintro e w' ⟨rfl, rfl⟩
    exact ⟨ret_bool (by rw [← hr]; simp [Pure.within]), rfl⟩

/-- within at three numbers. -/
theorem within3 (lo hi a c d : Int) (b cap : Nat) (w : World) (h0 : w.cell? ⟨b, 0, none⟩ = some (.int .i64 a)) (h1 : w.cell? ⟨b, 1, none⟩ = some (.int .i64 c)) (h2 : w.cell? ⟨b, 2, none⟩ = some (.int .i64 d)) (r : Bool)
    (hr : (decide (lo ≤ a) && decide (a ≤ hi) && (decide (lo ≤ c) && decide (c ≤ hi)) && (decide (lo ≤ d) && decide (d ≤ hi))) = r) :
    Calls Tryz.prog 55 #[.agg #[.int .i64 lo, .int .i64 hi], .slice (some ⟨b, 0, none⟩) 3 cap] w fun e w' =>
      e = .returned (.bool r) ∧ w' = w.alloc (.cells #[.int .i64 lo, .int .i64 hi] 26) := by
  refine (within_any lo hi b 3 cap [a, c, d] rfl (by omega) w (fun j hj => ?_)).mono ?_
  · have : j = 0 ∨ j = 1 ∨ j = 2 := by omega
    rcases this with rfl | rfl | rfl
    · exact h0
    · exact h1
    · exact h2
  · rintro e w' ⟨rfl, rfl⟩
    exact ⟨ret_bool (by rw [← hr]; simp [Pure.within, Bool.and_assoc]), rfl⟩

end Go.Proofs.YtjegkkpdemoldaaGreatDoor

namespace Go.Proofs.YtjegkkpdemoldaaGreatDoor
open Go.RowKit

namespace Pure
/-- The greatest common divisor. -/
def gcd (a b : Int) : Int := (a.toNat.gcd b.toNat : Nat)
theorem gcd_step {a b : Int} (ha : 0 < a) (hb : 0 ≤ b) : gcd (b % a) a = gcd a b := by
  unfold gcd
  rw [Nat.gcd_rec a.toNat b.toNat]
  congr 2
  rw [Int.toNat_emod hb (by omega)]
theorem gcd_zero {b : Int} (hb : 0 ≤ b) : gcd 0 b = b := by
  unfold gcd
  simp
  omega
theorem gcd_pos {a b : Int} (hb : 0 < b) : 0 < gcd a b := by
  unfold gcd
  have : 0 < a.toNat.gcd b.toNat := Nat.gcd_pos_of_pos_right _ (by omega)
  omega
theorem gcd_le {a b : Int} (hb : 0 < b) : gcd a b ≤ b := by
  unfold gcd
  have := Nat.gcd_le_right (m := a.toNat) (n := b.toNat) (by omega)
  omega
end Pure

set_option maxHeartbeats 1000000 in
set_option maxRecDepth 100000 in
/-- **divisor**. -/
theorem divisor_any (a b : Int) (ha : 0 ≤ a) (ha1 : a ≤ 9223372036854775807) (hb : 0 ≤ b) (hb1 : b ≤ 9223372036854775807) (w : World) :
    Calls Tryz.prog 71 #[.int .i64 a, .int .i64 b] w fun e w' => e = .returned (.int .i64 (Pure.gcd a b)) ∧ w = w' := by
  go_enter Tryz.func71, Tryz.ntmps71
  go_wp2_with fail
  go_loop [0, 1] (fun s t => ∃ x y : Int, 0 ≤ x ∧ x ≤ 9223372036854775807 ∧ 0 ≤ y ∧ y ≤ 9223372036854775807 ∧ s = .int .i64 x ∧ t = .int .i64 y ∧ Pure.gcd x y = Pure.gcd a b) (fun s _ => (intOf s).toNat)
  case atStart => exact ⟨a, b, ha, ha1, hb, hb1, rfl, rfl, rfl⟩
  case round =>
    obtain ⟨x, y, hx, hx1, hy, hy1, rfl, rfl, hg⟩ := hrel
    have HG := Lib.hid hg
    clear hg ha ha1 hb hb1
    by_cases h0 : x = 0
    · subst h0
      go_wp2_with fail
      go_ret
      exact ⟨ret_int (by rw [← HG.out, Pure.gcd_zero hy]), rfl⟩
    · have hne : (x != 0) = true := by simpa using h0
      have hpos : 0 < x := by omega
      have hm1 := Int.emod_nonneg y h0
      have hm2 := Int.emod_lt_of_pos y hpos
      clear h0
      go_wp2_with fail
      go_round
      case rel => exact ⟨y % x, x, hm1, by omega, hx, hx1, rfl, rfl, by rw [Pure.gcd_step hpos hy]; exact HG.out⟩
      case measure => simp [intOf]; omega

set_option maxHeartbeats 1000000 in
set_option maxRecDepth 100000 in
/-- **part**: a fraction in lowest terms. -/
theorem part_any (a b : Int) (ha : 0 ≤ a) (ha1 : a ≤ 9223372036854775807) (hb : 0 < b) (hb1 : b ≤ 9223372036854775807) (w : World) :
    Calls Tryz.prog 38 #[.int .i64 a, .int .i64 b] w fun e w' => e = .returned (.agg #[.int .i64 (a / Pure.gcd a b), .int .i64 (b / Pure.gcd a b)]) ∧ Below w.heap.size w w' := by
  have hg1 := Pure.gcd_pos (a := a) hb
  have hg2 := Pure.gcd_le (a := a) hb
  go_enter Tryz.func38, Tryz.ntmps38
  go_wp2_with (go_at_call 71; refine (divisor_any _ _ (by omega) (by omega) (by omega) (by omega) _).mono ?_; rintro e w' ⟨rfl, rfl⟩)
  go_region
  go_wp2_with fail
  refine bodyPost_ret (v := .agg #[.int .i64 (a / Pure.gcd a b), .int .i64 (b / Pure.gcd a b)]) (by simp [results, Tryz.results38, go_sem]) rfl ⟨rfl, ?_⟩
  repeat (first | exact Below.refl _ _ | refine Below.drew ?_ | refine Below.alloc ?_ (by simp; try omega) _)

end Go.Proofs.YtjegkkpdemoldaaGreatDoor
