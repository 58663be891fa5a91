/-
  The contracts of near, middle, Award, and of the reference's Award.
-/
import Derived.Test.YteckpbghmhelpaaTerms
namespace Go.Proofs.Yteckpbghmhelpaa
open Go.RowKit

namespace Pure
def okAward (a b u : Int) : Bool := decide (0 ≤ a) && decide (a ≤ 1000000) && (decide (0 ≤ b) && decide (b ≤ 1000000)) && (decide (0 ≤ u) && decide (u ≤ 1000000))
def near (a b : Int) : Bool := decide ((max a b - min a b) * 10 ≤ max a b)
def middle (a b c : Int) : Int := max (min a b) (min (max a b) c)
def award (a b u : Int) : Int := if near a b then (a + b) / 2 else middle a b u
theorem award_near {a b u : Int} (h : near a b = true) : award a b u = (a + b) / 2 := by unfold award; rw [if_pos h]
theorem award_far {a b u : Int} (h : near a b = false) : award a b u = middle a b u := by unfold award; rw [h]; rfl
end Pure

set_option maxHeartbeats 1000000 in
theorem near_any (a b : Int) (ha0 : 0 ≤ a) (ha : a ≤ 1000000) (hb0 : 0 ≤ b) (hb : b ≤ 1000000) (w : World) :
    Calls Try.prog 111 #[.int .i64 a, .int .i64 b] w fun e w' => e = .returned (.bool (Pure.near a b)) ∧ w = w' := by
  go_enter Try.func111, Try.ntmps111
  go_wp2_with fail
  all_goals
    go_ret
    refine ⟨ret_bool ?_, rfl⟩
    unfold Pure.near
    rw [Bool.eq_iff_iff]
    simp only [decide_eq_true_eq, true_iff]
    omega

set_option maxHeartbeats 1000000 in
theorem middle_any (a b c : Int) (w : World) :
    Calls Try.prog 112 #[.int .i64 a, .int .i64 b, .int .i64 c] w fun e w' => e = .returned (.int .i64 (Pure.middle a b c)) ∧ w = w' := by
  go_enter Try.func112, Try.ntmps112
  go_wp2_with fail
  all_goals
    go_ret
    refine ⟨ret_int ?_, rfl⟩
    unfold Pure.middle
    first | omega | grind

set_option maxHeartbeats 1000000 in
set_option maxRecDepth 100000 in
/-- **Award**. -/
theorem award_any (a b u : Int) (w : World) :
    Calls Try.prog 50 #[.int .i64 a, .int .i64 b, .int .i64 u] w fun e w' => e = .returned (Pure.resI (Pure.err (Pure.okAward a b u) 2) (Pure.award a b u)) ∧ Below w.heap.size w w' := by
  obtain ⟨r, hr⟩ : ∃ r, (decide (0 ≤ a) && decide (a ≤ 1000000) && (decide (0 ≤ b) && decide (b ≤ 1000000)) && (decide (0 ≤ u) && decide (u ≤ 1000000))) = r := ⟨_, rfl⟩
  have HR := Lib.hid hr
  have HO : Hid (Pure.okAward a b u = r) := Lib.hid hr
  clear hr
  go_enter Try.func50, Try.ntmps50
  go_wp2_with fail
  refine (within3 0 1000000 a b u _ 3 _ (cells_top _ _ _ (by simp) 0) (cells_top _ _ _ (by simp) 1) (cells_top _ _ _ (by simp) 2) r HR.out).mono ?_
  rintro e w' ⟨rfl, rfl⟩
  cases r
  · go_wp2_with fail
    go_ret2
    refine ⟨by rw [HO.out]; rfl, ?_⟩
    repeat (first | exact Below.refl _ _ | refine Below.alloc ?_ (by simp; try omega) _)
  · have q := HR.out
    simp only [Bool.and_eq_true, decide_eq_true_eq] at q
    obtain ⟨⟨⟨a1, a2⟩, b1, b2⟩, u1, u2⟩ := q
    have m0 : 0 ≤ a + b := by omega
    have m1 : a + b ≤ 2000000 := by omega
    go_wp2_with fail
    refine (near_any a b a1 a2 b1 b2 _).mono ?_
    rintro e w' ⟨rfl, rfl⟩
    obtain ⟨s, hs⟩ : ∃ s, Pure.near a b = s := ⟨_, rfl⟩
    rw [hs]
    have HS := Lib.hid hs
    clear hs
    cases s
    · go_wp2_with fail
      refine (middle_any a b u _).mono ?_
      rintro e w' ⟨rfl, rfl⟩
      go_wp2_with fail
      go_ret2
      refine ⟨by rw [HO.out, Pure.award_far HS.out]; rfl, ?_⟩
      repeat (first | exact Below.refl _ _ | refine Below.alloc ?_ (by simp; try omega) _)
    · go_wp2_with fail
      go_ret2
      refine ⟨by rw [HO.out, Pure.award_near HS.out]; rfl, ?_⟩
      repeat (first | exact Below.refl _ _ | refine Below.alloc ?_ (by simp; try omega) _)

set_option maxHeartbeats 2000000 in
set_option maxRecDepth 100000 in
/-- The reference's Award. -/
theorem rAward_any (a b u : Int) (w : World) :
    Calls Try.prog 51 #[.int .i64 a, .int .i64 b, .int .i64 u] w fun e w' => e = .returned (Pure.resI (Pure.err (Pure.okAward a b u) 2) (Pure.award a b u)) ∧ w = w' := by
  obtain ⟨r1, h1⟩ : ∃ r, (decide (0 ≤ a) && decide (a ≤ 1000000)) = r := ⟨_, rfl⟩
  obtain ⟨r2, h2⟩ : ∃ r, (decide (0 ≤ b) && decide (b ≤ 1000000)) = r := ⟨_, rfl⟩
  obtain ⟨r3, h3⟩ : ∃ r, (decide (0 ≤ u) && decide (u ≤ 1000000)) = r := ⟨_, rfl⟩
  have HO : Hid (Pure.okAward a b u = (r1 && r2 && r3)) := Lib.hid (by unfold Pure.okAward; rw [h1, h2, h3])
  have R1 := Lib.hid h1
  have R2 := Lib.hid h2
  have R3 := Lib.hid h3
  clear h1 h2 h3
  go_enter Try.func51, Try.ntmps51
  go_wp2_with fail
  refine (rWithin_any a 0 1000000 r1 R1.out _).mono ?_
  rintro e w' ⟨rfl, rfl⟩
  cases r1
  · go_wp2_with fail
    go_ret2
    exact ⟨by rw [HO.out]; rfl, rfl⟩
  · go_wp2_with fail
    refine (rWithin_any b 0 1000000 r2 R2.out _).mono ?_
    rintro e w' ⟨rfl, rfl⟩
    cases r2
    · go_wp2_with fail
      go_ret2
      exact ⟨by rw [HO.out]; rfl, rfl⟩
    · go_wp2_with fail
      refine (rWithin_any u 0 1000000 r3 R3.out _).mono ?_
      rintro e w' ⟨rfl, rfl⟩
      cases r3
      · go_wp2_with fail
        go_ret2
        exact ⟨by rw [HO.out]; rfl, rfl⟩
      · have q1 := R1.out
        have q2 := R2.out
        have q3 := R3.out
        simp only [Bool.and_eq_true, decide_eq_true_eq] at q1 q2 q3
        obtain ⟨a1, a2⟩ := q1
        obtain ⟨b1, b2⟩ := q2
        obtain ⟨u1, u2⟩ := q3
        go_wp2_with fail
        all_goals
          go_ret2
          refine ⟨?_, rfl⟩
          rw [HO.out]
          simp [Pure.resI, Pure.err]
          clear R1 R2 R3 HO
          unfold Pure.award Pure.near Pure.middle
          simp only [decide_eq_true_eq]
          split <;> (first | omega | grind)

end Go.Proofs.Yteckpbghmhelpaa
