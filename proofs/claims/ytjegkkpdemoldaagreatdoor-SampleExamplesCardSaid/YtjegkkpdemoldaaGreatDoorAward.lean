/-
  The contracts of near, middle, Award, and of the reference's Award.
-/
import Derived.Test.YtjegkkpdemoldaaGreatDoorTerms
namespace Go.Proofs.YtjegkkpdemoldaaGreatDoor
open Go.RowKit

namespace Pure
def okAward (a b u : Int) : Bool := decide (0 ≤ a) && decide (a ≤ 1000000) && (decide (0 ≤ b) && decide (b ≤ 1000000)) && (decide (0 ≤ u) && decide (u ≤ 1000000))
def near (a b : Int) : Bool := decide ((max a b - min a b) * 10 ≤ max a b)
def middle (a b c : Int) : Int := max (min a b) (min (max a b) c)
def award (a b u : Int) : Int := if near a b then (a + b) / 2 else middle a b u
theorem award_near {a b u : Int} (h : near a b = true) : award a b u = (a + b) / 2 := by unfold award; rw [if_pos h]
theorem award_far {a b u : Int} (h : near a b = false) : award a b u = middle a b u := by unfold award; rw [h]; rfl
end Pure

set_option maxHeartbeats 1000000 in
theorem near_any (a b : Int) (ha0 : 0 ≤ a) (ha : a ≤ 1000000) (hb0 : 0 ≤ b) (hb : b ≤ 1000000) (w : World) :
    Calls Tryz.prog 56 #[.int .i64 a, .int .i64 b] w fun e w' => e = .returned (.bool (Pure.near a b)) ∧ w = w' := by
  go_enter Tryz.func56, Tryz.ntmps56
  go_wp2_with fail
  all_goals
    go_ret
    refine ⟨ret_bool ?_, rfl⟩
    unfold Pure.near
    rw [Bool.eq_iff_iff]
    simp only [decide_eq_true_eq, true_iff]
    omega

set_option maxHeartbeats 1000000 in
theorem middle_any (a b c : Int) (w : World) :
    Calls Tryz.prog 57 #[.int .i64 a, .int .i64 b, .int .i64 c] w fun e w' => e = .returned (.int .i64 (Pure.middle a b c)) ∧ w = w' := by
  go_enter Tryz.func57, Tryz.ntmps57
  go_wp2_with fail
  all_goals
    go_ret
    refine ⟨ret_int ?_, rfl⟩
    unfold Pure.middle
    first | omega | grind

set_option maxHeartbeats 1000000 in
set_option maxRecDepth 100000 in
/-- **Award**. -/
theorem award_any (a b u : Int) (w : World) :
    Calls Tryz.prog 18 #[.int .i64 a, .int .i64 b, .int .i64 u] w fun e w' => e = .returned (Pure.resI (Pure.err (Pure.okAward a b u) 2) (Pure.award a b u)) ∧ Below w.heap.size w w' := by
  obtain ⟨r, hr⟩ : ∃ r, (decide (0 ≤ a) && decide (a ≤ 1000000) && (decide (0 ≤ b) && decide (b ≤ 1000000)) && (decide (0 ≤ u) && decide (u ≤ 1000000))) = r := ⟨_, rfl⟩
  have HR := Lib.hid hr
  have HO : Hid (Pure.okAward a b u = r) := Lib.hid hr
  clear hr
  go_enter Tryz.func18, Tryz.ntmps18
  go_wp2_with fail
  refine (within3 0 1000000 a b u _ 3 _ (cells_top _ _ _ (by simp) 0) (cells_top _ _ _ (by simp) 1) (cells_top _ _ _ (by simp) 2) r HR.out).mono ?_
  rintro e w' ⟨rfl, rfl⟩
  cases r
  · go_wp2_with fail
    go_ret2
    refine ⟨by rw [HO.out]; rfl, ?_⟩
    repeat (first | exact Below.refl _ _ | refine Below.alloc ?_ (by simp; try omega) _)
  · have q := HR.out
    simp only [Bool.and_eq_true, decide_eq_true_eq] at q
    obtain ⟨⟨⟨a1, a2⟩, b1, b2⟩, u1, u2⟩ := q
    have m0 : 0 ≤ a + b := by omega
    have m1 : a + b ≤ 2000000 := by omega
    go_wp2_with fail
    refine (near_any a b a1 a2 b1 b2 _).mono ?_
    rintro e w' ⟨rfl, rfl⟩
    obtain ⟨s, hs⟩ : ∃ s, Pure.near a b = s := ⟨_, rfl⟩
    rw [hs]
    have HS := Lib.hid hs
    clear hs
    cases s
    · go_wp2_with fail
      refine (middle_any a b u _).mono ?_
      rintro e w' ⟨rfl, rfl⟩
      go_wp2_with fail
      go_ret2
      refine ⟨by rw [HO.out, Pure.award_far HS.out]; rfl, ?_⟩
      repeat (first | exact Below.refl _ _ | refine Below.alloc ?_ (by simp; try omega) _)
    · go_wp2_with fail
      go_ret2
      refine ⟨by rw [HO.out, Pure.award_near HS.out]; rfl, ?_⟩
      repeat (first | exact Below.refl _ _ | refine Below.alloc ?_ (by simp; try omega) _)

end Go.Proofs.YtjegkkpdemoldaaGreatDoor
