/-
  The contracts of the small functions of package plan.
-/
import Derived.Test.YtacdbjandcdejaaPBase
namespace Go.Proofs.Ytacdbjandcdejaa
open Go.RowKit

theorem nums_one {w : World} {b : Nat} {x : Int} (h : w.cell? ⟨b, 0, none⟩ = some (.int .i64 x)) : NumsAt w (some ⟨b, 0, none⟩) 1 (fun _ => x) := fun j hj => by
  obtain rfl : j = 0 := by omega
  exact ⟨b, 0, rfl, h⟩
theorem nums_two {w : World} {b : Nat} {x y : Int} (h : w.cell? ⟨b, 0, none⟩ = some (.int .i64 x)) (h1 : w.cell? ⟨b, 1, none⟩ = some (.int .i64 y)) : NumsAt w (some ⟨b, 0, none⟩) 2 (fun j => if j = 0 then x else y) := fun j hj => by
  have h2 : j = 0 ∨ j = 1 := by omega
  rcases h2 with rfl | rfl
  · exact ⟨b, 0, rfl, h⟩
  · exact ⟨b, 0, rfl, h1⟩
namespace Pure
/-- Whether some numbers are in a span. -/
def inSpan (lo hi : Int) (len : Nat) (F : Nat → Int) : Bool := decide (∀ j, j < len → lo ≤ F j ∧ F j ≤ hi)
theorem inSpan_no {lo hi : Int} {len : Nat} {F : Nat → Int} {k : Nat} (h : k < len) (h1 : ¬ (lo ≤ F k ∧ F k ≤ hi)) : inSpan lo hi len F = false := by
  unfold inSpan
  exact decide_eq_false fun g => h1 (g k h)
theorem inSpan_yes {lo hi : Int} {len : Nat} {F : Nat → Int} (h : ∀ j, j < len → lo ≤ F j ∧ F j ≤ hi) : inSpan lo hi len F = true := decide_eq_true h
theorem inSpan_one {lo hi x : Int} : inSpan lo hi 1 (fun _ => x) = decide (lo ≤ x ∧ x ≤ hi) := by
  unfold inSpan
  rw [decide_eq_decide]
  exact ⟨fun h => h 0 (by omega), fun h _ _ => h⟩
theorem inSpan_two {lo hi x y : Int} : inSpan lo hi 2 (fun j => if j = 0 then x else y) = decide ((lo ≤ x ∧ x ≤ hi) ∧ (lo ≤ y ∧ y ≤ hi)) := by
  unfold inSpan
  rw [decide_eq_decide]
  refine ⟨fun h => ⟨h 0 (by omega), h 1 (by omega)⟩, fun h j hj => ?_⟩
  have h2 : j = 0 ∨ j = 1 := by omega
  rcases h2 with rfl | rfl
  · exact h.1
  · exact h.2
/-- The sum of the first k numbers. -/
def sumTo (F : Nat → Int) : Nat → Int
  | 0 => 0
  | k + 1 => sumTo F k + F k
theorem sumTo_span {F : Nat → Int} {len : Nat} {m : Int} (h : ∀ j, j < len → 0 ≤ F j ∧ F j ≤ m) : ∀ k, k ≤ len → 0 ≤ sumTo F k ∧ sumTo F k ≤ m * k
  | 0, _ => by simp [sumTo]
  | k + 1, hk => by
    obtain ⟨a, b⟩ := sumTo_span h k (by omega)
    obtain ⟨c, d⟩ := h k (by omega)
    simp only [sumTo]
    refine ⟨by omega, ?_⟩
    have : m * ((k + 1 : Nat) : Int) = m * k + m := by rw [Int.natCast_add, Int.mul_add]; simp
    omega
def err (so : Bool) (e : Int) : Int := if so then 0 else e
end Pure

set_option maxHeartbeats 1000000 in
set_option maxRecDepth 100000 in
theorem within_nums (lo hi : Int) (a : Option Addr) (len cap : Nat) (F : Nat → Int) (hl : len ≤ 9223372036854775807) (w : World) (h : NumsAt w a len F) :
    Calls Try.prog 58 #[spanV lo hi, .slice a len cap] w fun e w' => e = .returned (.bool (Pure.inSpan lo hi len F)) ∧ w' = w.alloc (spanB lo hi) := by
  have HN : Hid (NumsAt (w.alloc (spanB lo hi)) a len F) := Lib.hid (h.alloc _)
  clear h
  go_enter Try.func58, Try.ntmps58
  go_wp2_with fail
  go_loop [6, 9] (fun _ i => ∃ k : Nat, k ≤ len ∧ i = .int .i64 k ∧ ∀ j, j < k → lo ≤ F j ∧ F j ≤ hi) (fun _ i => len - (intOf i).toNat)
  case atStart => exact ⟨0, Nat.zero_le _, rfl, fun j hj => by omega⟩
  case round =>
    obtain ⟨k, hk, rfl, hW⟩ := hrel
    have HW := Lib.hid hW
    clear hW
    by_cases hk1 : k < len
    · obtain ⟨b, off, rfl, hc1⟩ := HN.out k hk1
      by_cases h1 : F k < lo
      · go_wp2_with fail
        go_ret
        exact ⟨ret_bool (Pure.inSpan_no hk1 (by omega)).symm, rfl⟩
      · by_cases h2 : hi < F k
        · go_wp2_with fail
          go_ret
          exact ⟨ret_bool (Pure.inSpan_no hk1 (by omega)).symm, rfl⟩
        · go_wp2_with fail
          go_round
          case rel => exact ⟨k + 1, by omega, by go_num, fun j hj => by
            by_cases e : j = k
            · subst e; omega
            · exact HW.out j (by omega)⟩
          case measure => simp [intOf]; omega
    · obtain rfl : k = len := by omega
      go_wp2_with fail
      go_ret
      exact ⟨ret_bool (Pure.inSpan_yes HW.out).symm, rfl⟩

theorem within1 (lo hi a : Int) (b cap : Nat) (w : World) (h0 : w.cell? ⟨b, 0, none⟩ = some (.int .i64 a)) (r : Bool) (hr : decide (lo ≤ a ∧ a ≤ hi) = r) :
    Calls Try.prog 58 #[spanV lo hi, .slice (some ⟨b, 0, none⟩) 1 cap] w fun e w' => e = .returned (.bool r) ∧ w' = w.alloc (spanB lo hi) :=
  (within_nums lo hi _ 1 cap _ (by omega) w (nums_one h0)).mono fun _ _ g => ⟨g.1.trans (ret_bool (Pure.inSpan_one.trans hr)), g.2⟩
theorem within2 (lo hi a c : Int) (b cap : Nat) (w : World) (h0 : w.cell? ⟨b, 0, none⟩ = some (.int .i64 a)) (h1 : w.cell? ⟨b, 1, none⟩ = some (.int .i64 c)) (r : Bool) (hr : decide ((lo ≤ a ∧ a ≤ hi) ∧ (lo ≤ c ∧ c ≤ hi)) = r) :
    Calls Try.prog 58 #[spanV lo hi, .slice (some ⟨b, 0, none⟩) 2 cap] w fun e w' => e = .returned (.bool r) ∧ w' = w.alloc (spanB lo hi) :=
  (within_nums lo hi _ 2 cap _ (by omega) w (nums_two h0 h1)).mono fun _ _ g => ⟨g.1.trans (ret_bool (Pure.inSpan_two.trans hr)), g.2⟩

set_option maxHeartbeats 1000000 in
set_option maxRecDepth 100000 in
theorem sum_any (a : Option Addr) (len cap : Nat) (F : Nat → Int) (hl : len ≤ 40) (hF : ∀ j, j < len → 0 ≤ F j ∧ F j ≤ 4) (w : World) (h : NumsAt w a len F) :
    Calls Try.prog 59 #[.slice a len cap] w fun e w' => e = .returned (.int .i64 (Pure.sumTo F len)) ∧ w = w' := by
  have HN := Lib.hid h
  have HF := Lib.hid hF
  clear h hF
  go_enter Try.func59, Try.ntmps59
  go_wp2_with fail
  go_loop [3, 5, 8] (fun s _ i => ∃ k : Nat, k ≤ len ∧ i = .int .i64 k ∧ s = .int .i64 (Pure.sumTo F k)) (fun _ _ i => len - (intOf i).toNat)
  case atStart => exact ⟨0, Nat.zero_le _, rfl, rfl⟩
  case round =>
    obtain ⟨k, hk, rfl, rfl⟩ := hrel
    by_cases hk1 : k < len
    · obtain ⟨b, off, rfl, hc1⟩ := HN.out k hk1
      obtain ⟨f0, f1⟩ := HF.out k hk1
      obtain ⟨s0, s1⟩ := Pure.sumTo_span HF.out k hk
      go_wp2_with fail
      go_round
      case rel => exact ⟨k + 1, by omega, by go_num, by simp [Pure.sumTo]⟩
      case measure => simp [intOf]; omega
    · obtain rfl : k = len := by omega
      go_wp2_with fail
      go_ret
      exact ⟨rfl, rfl⟩

theorem isDay_any (p : PlanX) (day : Int) (h0 : 0 ≤ p.fr) (h1 : p.fr ≤ 3652) (hn : p.tn ≤ 40) (w : World) :
    Calls Try.prog 61 #[planV p, .int .i64 day] w fun e w' => e = .returned (.bool (decide (p.fr ≤ day ∧ day ≤ p.fr + p.tn - 1))) ∧ Below w.heap.size w w' := by
  obtain ⟨fr, ta, tn, tc, sd, ck, aa, an, ac, sa, sn, sc, bu⟩ := p
  simp only at h0 h1 hn ⊢
  go_enter Try.func61, Try.ntmps61
  go_wp2_with (go_at_call 58; refine (within1 fr (fr + tn - 1) day _ _ _ (first_cell _ _ _ (by simp)) _ rfl).mono ?_; rintro e w' ⟨rfl, rfl⟩)
  go_ret
  exact ⟨ret_bool (by simp), by repeat (first | exact Below.refl _ _ | refine Below.alloc ?_ (by simp; try omega) _)⟩

end Go.Proofs.Ytacdbjandcdejaa
