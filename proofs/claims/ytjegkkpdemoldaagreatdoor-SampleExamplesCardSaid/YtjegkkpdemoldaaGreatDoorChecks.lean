/-
  The contracts of the checks of package sample: a cargo, a draw, a number of dirty bags, a number of opened bags.
-/
import Derived.Test.YtjegkkpdemoldaaGreatDoorWithin
namespace Go.Proofs.YtjegkkpdemoldaaGreatDoor
open Go.RowKit

namespace Pure
def okCargo (b lo hi : Int) : Bool := decide (1 ≤ b ∧ b ≤ 36 ∧ 0 ≤ lo ∧ lo ≤ hi ∧ hi ≤ b)
def okDraw (b o f : Int) : Bool := decide (0 ≤ o ∧ o ≤ b ∧ 0 ≤ f ∧ f ≤ o)
def okIn (lo hi n : Int) : Bool := decide (lo ≤ n ∧ n ≤ hi)
end Pure

abbrev cargoV (b lo hi : Int) : Value := .agg #[.int .i64 b, .int .i64 lo, .int .i64 hi]

set_option maxHeartbeats 1000000 in
set_option maxRecDepth 100000 in
/-- **Check**. -/
theorem check_any (b lo hi : Int) (w : World) :
    Calls Tryz.prog 29 #[cargoV b lo hi] w fun e w' => e = .returned (.int .i64 (Pure.err (Pure.okCargo b lo hi) 10)) ∧ Below w.heap.size w w' := by
  have hb1 : ∃ r1, (decide (1 ≤ b) && decide (b ≤ 36)) = r1 := ⟨_, rfl⟩
  have hb2 : ∃ r2, (decide (0 ≤ lo) && decide (lo ≤ b) && (decide (0 ≤ hi) && decide (hi ≤ b))) = r2 := ⟨_, rfl⟩
  obtain ⟨r1, h1⟩ := hb1
  obtain ⟨r2, h2⟩ := hb2
  have HF : Hid (Pure.err (Pure.okCargo b lo hi) 10 = Pure.err ((r1 && (r2 && decide (lo ≤ hi)))) 10) := by
    subst h1
    subst h2
    refine Lib.hid ?_
    congr 1
    rw [Bool.eq_iff_iff]
    unfold Pure.okCargo
    simp
    omega
  have H1 := Lib.hid h1
  have H2 := Lib.hid h2
  clear h1 h2
  go_enter Tryz.func29, Tryz.ntmps29
  go_wp2_with fail
  refine (within1 1 36 b _ 1 _ (cells_top _ _ _ (by simp) 0) r1 H1.out).mono ?_
  rintro e w' ⟨rfl, rfl⟩
  go_wp2_with fail
  refine (within2 0 b lo hi _ 2 _ (cells_top _ _ _ (by simp) 0) (cells_top _ _ _ (by simp) 1) r2 H2.out).mono ?_
  rintro e w' ⟨rfl, rfl⟩
  cases r1 <;> cases r2
  all_goals
    go_wp2_with fail
    refine (unless_any _ _ _).mono ?_
    rintro e w' ⟨rfl, rfl⟩
    go_wp2_with fail
    go_ret
    refine ⟨ret_int (by rw [HF.out]; rfl), ?_⟩
    repeat (first | exact Below.refl _ _ | refine Below.alloc ?_ (by simp; try omega) _)

set_option maxHeartbeats 1000000 in
set_option maxRecDepth 100000 in
/-- **checkDraw**. -/
theorem checkDraw_any (b o f : Int) (w : World) :
    Calls Tryz.prog 58 #[.int .i64 b, .agg #[.int .i64 o, .int .i64 f]] w fun e w' => e = .returned (.int .i64 (Pure.err (Pure.okDraw b o f) 11)) ∧ Below w.heap.size w w' := by
  have hb1 : ∃ r1, (decide (0 ≤ o) && decide (o ≤ b)) = r1 := ⟨_, rfl⟩
  have hb2 : ∃ r2, (decide (0 ≤ f) && decide (f ≤ o)) = r2 := ⟨_, rfl⟩
  obtain ⟨r1, h1⟩ := hb1
  obtain ⟨r2, h2⟩ := hb2
  have HF : Hid (Pure.err (Pure.okDraw b o f) 11 = Pure.err ((r1 && r2)) 11) := by
    subst h1
    subst h2
    refine Lib.hid ?_
    congr 1
    rw [Bool.eq_iff_iff]
    unfold Pure.okDraw
    simp
    omega
  have H1 := Lib.hid h1
  have H2 := Lib.hid h2
  clear h1 h2
  go_enter Tryz.func58, Tryz.ntmps58
  go_wp2_with fail
  refine (within1 0 b o _ 1 _ (cells_top _ _ _ (by simp) 0) r1 H1.out).mono ?_
  rintro e w' ⟨rfl, rfl⟩
  cases r1
  · go_wp2_with fail
    refine (unless_any _ _ _).mono ?_
    rintro e w' ⟨rfl, rfl⟩
    go_wp2_with fail
    go_ret
    refine ⟨ret_int (by rw [HF.out]; rfl), ?_⟩
    repeat (first | exact Below.refl _ _ | refine Below.alloc ?_ (by simp; try omega) _)
  · go_wp2_with fail
    refine (within1 0 o f _ 1 _ (cells_top _ _ _ (by simp) 0) r2 H2.out).mono ?_
    rintro e w' ⟨rfl, rfl⟩
    go_wp2_with fail
    refine (unless_any _ _ _).mono ?_
    rintro e w' ⟨rfl, rfl⟩
    go_wp2_with fail
    go_ret
    refine ⟨ret_int (by rw [HF.out]; rfl), ?_⟩
    repeat (first | exact Below.refl _ _ | refine Below.alloc ?_ (by simp; try omega) _)

set_option maxHeartbeats 1000000 in
set_option maxRecDepth 100000 in
/-- **checkDirty**, at one number. -/
theorem checkDirty1 (b lo hi n : Int) (s cap : Nat) (w : World) (h0 : w.cell? ⟨s, 0, none⟩ = some (.int .i64 n)) :
    Calls Tryz.prog 33 #[cargoV b lo hi, .slice (some ⟨s, 0, none⟩) 1 cap] w fun e w' => e = .returned (.int .i64 (Pure.err (Pure.okIn lo hi n) 2)) ∧ Below w.heap.size w w' := by
  have hb1 : ∃ r1, (decide (lo ≤ n) && decide (n ≤ hi)) = r1 := ⟨_, rfl⟩
  obtain ⟨r1, h1⟩ := hb1
  have HF : Hid (Pure.err (Pure.okIn lo hi n) 2 = Pure.err (r1) 2) := by
    subst h1
    refine Lib.hid ?_
    congr 1
    rw [Bool.eq_iff_iff]
    unfold Pure.okIn
    simp
  have H1 := Lib.hid h1
  have H0 := Lib.hid h0
  clear h1 h0
  go_enter Tryz.func33, Tryz.ntmps33
  go_wp2_with fail
  refine (within1 lo hi n s cap _ (cell_up H0.out _) r1 H1.out).mono ?_
  rintro e w' ⟨rfl, rfl⟩
  go_wp2_with fail
  refine (unless_any _ _ _).mono ?_
  rintro e w' ⟨rfl, rfl⟩
  go_wp2_with fail
  go_ret
  refine ⟨ret_int (by rw [HF.out]), ?_⟩
  repeat (first | exact Below.refl _ _ | refine Below.alloc ?_ (by simp; try omega) _)

set_option maxHeartbeats 1000000 in
set_option maxRecDepth 100000 in
/-- **checkDirty**, at two numbers. -/
theorem checkDirty2 (b lo hi n m : Int) (s cap : Nat) (w : World) (h0 : w.cell? ⟨s, 0, none⟩ = some (.int .i64 n)) (h1 : w.cell? ⟨s, 1, none⟩ = some (.int .i64 m)) :
    Calls Tryz.prog 33 #[cargoV b lo hi, .slice (some ⟨s, 0, none⟩) 2 cap] w fun e w' => e = .returned (.int .i64 (Pure.err (Pure.okIn lo hi n && Pure.okIn lo hi m) 2)) ∧ Below w.heap.size w w' := by
  have hb1 : ∃ r1, (decide (lo ≤ n) && decide (n ≤ hi) && (decide (lo ≤ m) && decide (m ≤ hi))) = r1 := ⟨_, rfl⟩
  obtain ⟨r1, hr⟩ := hb1
  have HF : Hid (Pure.err (Pure.okIn lo hi n && Pure.okIn lo hi m) 2 = Pure.err (r1) 2) := by
    subst hr
    refine Lib.hid ?_
    congr 1
    rw [Bool.eq_iff_iff]
    unfold Pure.okIn
    simp
  have HR := Lib.hid hr
  have H0 := Lib.hid h0
  have H1 := Lib.hid h1
  clear h1 h0 hr
  go_enter Tryz.func33, Tryz.ntmps33
  go_wp2_with fail
  refine (within2 lo hi n m s cap _ (cell_up H0.out _) (cell_up H1.out _) r1 HR.out).mono ?_
  rintro e w' ⟨rfl, rfl⟩
  go_wp2_with fail
  refine (unless_any _ _ _).mono ?_
  rintro e w' ⟨rfl, rfl⟩
  go_wp2_with fail
  go_ret
  refine ⟨ret_int (by rw [HF.out]), ?_⟩
  repeat (first | exact Below.refl _ _ | refine Below.alloc ?_ (by simp; try omega) _)

set_option maxHeartbeats 1000000 in
set_option maxRecDepth 100000 in
/-- **checkOpened**. -/
theorem checkOpened_any (b lo hi n : Int) (w : World) :
    Calls Tryz.prog 34 #[cargoV b lo hi, .int .i64 n] w fun e w' => e = .returned (.int .i64 (Pure.err (Pure.okIn 0 b n) 2)) ∧ Below w.heap.size w w' := by
  have hb1 : ∃ r1, (decide (0 ≤ n) && decide (n ≤ b)) = r1 := ⟨_, rfl⟩
  obtain ⟨r1, h1⟩ := hb1
  have HF : Hid (Pure.err (Pure.okIn 0 b n) 2 = Pure.err (r1) 2) := by
    subst h1
    refine Lib.hid ?_
    congr 1
    rw [Bool.eq_iff_iff]
    unfold Pure.okIn
    simp
  have H1 := Lib.hid h1
  clear h1
  go_enter Tryz.func34, Tryz.ntmps34
  go_wp2_with fail
  refine (within1 0 b n _ 1 _ (cells_top _ _ _ (by simp) 0) r1 H1.out).mono ?_
  rintro e w' ⟨rfl, rfl⟩
  go_wp2_with fail
  refine (unless_any _ _ _).mono ?_
  rintro e w' ⟨rfl, rfl⟩
  go_wp2_with fail
  go_ret
  refine ⟨ret_int (by rw [HF.out]), ?_⟩
  repeat (first | exact Below.refl _ _ | refine Below.alloc ?_ (by simp; try omega) _)

end Go.Proofs.YtjegkkpdemoldaaGreatDoor
