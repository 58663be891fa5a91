/-
  The contracts of within, unless, and the checks of package sample.
-/
import Derived.Test.YtnldipniaphmgaaBase
namespace Go.Proofs.Ytnldipniaphmgaa
open Go.RowKit

namespace Pure
/-- An error unless something is so. -/
def err (so : Bool) (n : Int) : Int := if so then 0 else n
theorem err_true (n : Int) : err true n = 0 := rfl
theorem err_false (n : Int) : err false n = n := rfl
/-- Whether all of some numbers are in a span. -/
def within (lo hi : Int) (l : List Int) : Bool := l.all fun z => decide (lo ≤ z) && decide (z ≤ hi)
theorem within_snoc (lo hi : Int) (zs : List Int) (k : Nat) (h : k < zs.length) (h0 : within lo hi (zs.take k) = true) (h1 : lo ≤ zs[k]?.getD 0) (h2 : zs[k]?.getD 0 ≤ hi) : within lo hi (zs.take (k + 1)) = true := by
  unfold within at *
  rw [List.take_succ_eq_append_getElem h, List.all_append, h0]
  have e : zs[k]?.getD 0 = zs[k] := by simp [h]
  rw [e] at h1 h2
  simp [h1, h2]
theorem within_no (lo hi : Int) (zs : List Int) (k : Nat) (h : k < zs.length) (h1 : zs[k]?.getD 0 < lo ∨ hi < zs[k]?.getD 0) : within lo hi zs = false := by
  have e : zs[k]?.getD 0 = zs[k] := by simp [h]
  rw [e] at h1
  unfold within
  rw [List.all_eq_false]
  exact ⟨zs[k], List.getElem_mem h, by simp; omega⟩
end Pure

set_option maxHeartbeats 1000000 in
set_option maxRecDepth 100000 in
theorem within_any (lo hi : Int) (b len cap : Nat) (zs : List Int) (hz : zs.length = len) (hl : len ≤ 9223372036854775807) (w : World)
    (hc : ∀ j, j < len → w.cell? ⟨b, j, none⟩ = some (.int .i64 (zs[j]?.getD 0))) :
    Calls Try.prog 77 #[.agg #[.int .i64 lo, .int .i64 hi], .slice (some ⟨b, 0, none⟩) len cap] w fun e w' =>
      e = .returned (.bool (Pure.within lo hi zs)) ∧ w' = w.alloc (.cells #[.int .i64 lo, .int .i64 hi] 23) := by
  have hlt : ∀ j, j < len → b < w.heap.size := fun j hj => World.block_lt_of_cell? w _ (hc j hj)
  have HC := Lib.hid hc
  have HL := Lib.hid hlt
  have HZ := Lib.hid hz
  clear hc hlt hz
  go_enter Try.func77, Try.ntmps77
  go_wp2_with fail
  go_loop [6, 9] (fun _ i => ∃ k : Nat, k ≤ len ∧ i = .int .i64 k ∧ Pure.within lo hi (zs.take k) = true) (fun _ i => len - (intOf i).toNat)
  case atStart => exact ⟨0, Nat.zero_le _, rfl, rfl⟩
  case round =>
    obtain ⟨k, hk, rfl, hW⟩ := hrel
    have HW := Lib.hid hW
    clear hW
    by_cases hk1 : k < len
    · have hb := HL.out k hk1
      have hc1 := (World.cell?_alloc_lt w (.cells #[.int .i64 lo, .int .i64 hi] 23) ⟨b, k, none⟩ hb).trans (HC.out k hk1)
      by_cases h1 : zs[k]?.getD 0 < lo
      · go_wp2_with fail
        go_ret
        exact ⟨ret_bool (Pure.within_no lo hi zs k (by rw [HZ.out]; exact hk1) (.inl h1)).symm, rfl⟩
      · by_cases h2 : hi < zs[k]?.getD 0
        · go_wp2_with fail
          go_ret
          exact ⟨ret_bool (Pure.within_no lo hi zs k (by rw [HZ.out]; exact hk1) (.inr h2)).symm, rfl⟩
        · go_wp2_with fail
          go_round
          case rel => exact ⟨k + 1, by omega, by go_num, Pure.within_snoc lo hi zs k (by rw [HZ.out]; exact hk1) HW.out (by omega) (by omega)⟩
          case measure => simp [intOf]; omega
    · obtain rfl : k = len := by omega
      go_wp2_with fail
      go_ret
      exact ⟨ret_bool (by have := HW.out; rw [← HZ.out, List.take_length] at this; exact this.symm), rfl⟩

theorem unless_any (so : Bool) (n : Int) (w : World) : Calls Try.prog 62 #[.bool so, .int .i64 n] w fun e w' => e = .returned (.int .i64 (Pure.err so n)) ∧ w = w' := by
  cases so
  · go_enter Try.func62, Try.ntmps62
    go_wp2_with fail
    go_ret
    exact ⟨rfl, rfl⟩
  · go_enter Try.func62, Try.ntmps62
    go_wp2_with fail
    go_ret
    exact ⟨rfl, rfl⟩

theorem cells_top (w : World) (arr : Array Value) (t : TypeId) {b : Nat} (hb : b = w.heap.size) (j : Nat) : (w.alloc (.cells arr t)).cell? ⟨b, j, none⟩ = arr[j]? := by
  subst hb
  have h := (MapKept.heap_alloc w (.cells arr t)).1
  unfold World.cell?
  simp only [h]
  rfl

/-- within at one number. -/
theorem within1 (lo hi a : Int) (b cap : Nat) (w : World) (h0 : w.cell? ⟨b, 0, none⟩ = some (.int .i64 a)) (r : Bool) (hr : (decide (lo ≤ a) && decide (a ≤ hi)) = r) :
    Calls Try.prog 77 #[.agg #[.int .i64 lo, .int .i64 hi], .slice (some ⟨b, 0, none⟩) 1 cap] w fun e w' =>
      e = .returned (.bool r) ∧ w' = w.alloc (.cells #[.int .i64 lo, .int .i64 hi] 23) := by
  refine (within_any lo hi b 1 cap [a] rfl (by omega) w (fun j hj => ?_)).mono ?_
  · obtain rfl : j = 0 := by omega
    exact h0
  · rintro e w' ⟨rfl, rfl⟩
    exact ⟨ret_bool (by rw [← hr]; simp [Pure.within]), rfl⟩

/-- within at two numbers. -/
theorem within2 (lo hi a c : Int) (b cap : Nat) (w : World) (h0 : w.cell? ⟨b, 0, none⟩ = some (.int .i64 a)) (h1 : w.cell? ⟨b, 1, none⟩ = some (.int .i64 c)) (r : Bool)
    (hr : (decide (lo ≤ a) && decide (a ≤ hi) && (decide (lo ≤ c) && decide (c ≤ hi))) = r) :
    Calls Try.prog 77 #[.agg #[.int .i64 lo, .int .i64 hi], .slice (some ⟨b, 0, none⟩) 2 cap] w fun e w' =>
      e = .returned (.bool r) ∧ w' = w.alloc (.cells #[.int .i64 lo, .int .i64 hi] 23) := by
  refine (within_any lo hi b 2 cap [a, c] rfl (by omega) w (fun j hj => ?_)).mono ?_
  · have : j = 0 ∨ j = 1 := by omega
    rcases this with rfl | rfl
    · exact h0
    · exact h1
  · rintro e w' ⟨rfl, rfl⟩
    exact ⟨ret_bool (by rw [← hr]; simp [Pure.within]), rfl⟩

/-- within at three numbers. -/
theorem within3 (lo hi a c d : Int) (b cap : Nat) (w : World) (h0 : w.cell? ⟨b, 0, none⟩ = some (.int .i64 a)) (h1 : w.cell? ⟨b, 1, none⟩ = some (.int .i64 c)) (h2 : w.cell? ⟨b, 2, none⟩ = some (.int .i64 d)) (r : Bool)
    (hr : (decide (lo ≤ a) && decide (a ≤ hi) && (decide (lo ≤ c) && decide (c ≤ hi)) && (decide (lo ≤ d) && decide (d ≤ hi))) = r) :
    Calls Try.prog 77 #[.agg #[.int .i64 lo, .int .i64 hi], .slice (some ⟨b, 0, none⟩) 3 cap] w fun e w' =>
      e = .returned (.bool r) ∧ w' = w.alloc (.cells #[.int .i64 lo, .int .i64 hi] 23) := by
  refine (within_any lo hi b 3 cap [a, c, d] rfl (by omega) w (fun j hj => ?_)).mono ?_
  · have : j = 0 ∨ j = 1 ∨ j = 2 := by omega
    rcases this with rfl | rfl | rfl
    · exact h0
    · exact h1
    · exact h2
  · rintro e w' ⟨rfl, rfl⟩
    exact ⟨ret_bool (by rw [← hr]; simp [Pure.within, Bool.and_assoc]), rfl⟩

end Go.Proofs.Ytnldipniaphmgaa
