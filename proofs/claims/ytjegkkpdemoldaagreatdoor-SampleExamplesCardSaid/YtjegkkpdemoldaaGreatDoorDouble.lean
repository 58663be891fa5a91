/-
  The contracts of again and opens.
-/
import Derived.Test.YtjegkkpdemoldaaGreatDoorRule
namespace Go.Proofs.YtjegkkpdemoldaaGreatDoor
open Go.RowKit Go.Shelf

namespace Pure
/-- Whether a double rule opens its second bags behind f dirty ones. -/
def again (a r f : Int) : Bool := decide (a < f) && decide (f < r)
/-- How many bags a double rule opens behind j dirty ones. -/
def opensF (x1 a r x2 j : Int) : Int := if again a r j then x1 + x2 else x1
theorem opensF_true {x1 a r x2 j : Int} (h : again a r j = true) : opensF x1 a r x2 j = x1 + x2 := by unfold opensF; rw [h]; rfl
theorem opensF_false {x1 a r x2 j : Int} (h : again a r j = false) : opensF x1 a r x2 j = x1 := by unfold opensF; rw [h]; rfl
def opens (b d x1 a r x2 : Int) : Int := sum b d x1 (opensF x1 a r x2)
theorem opensF_nonneg {x1 a r x2 : Int} (h1 : 0 ≤ x1) (h2 : 0 ≤ x2) (j : Int) : 0 ≤ opensF x1 a r x2 j := by unfold opensF; split <;> omega
theorem opensF_le {x1 a r x2 : Int} (h2 : 0 ≤ x2) (h : x1 + x2 ≤ 36) (j : Int) : opensF x1 a r x2 j ≤ 36 := by unfold opensF; split <;> omega
theorem ways_opensF {b d o x1 a r x2 : Int} (hb : b ≤ 36) (h2 : 0 ≤ x2) (h : x1 + x2 ≤ 36) (j : Int) : ways b d o j * opensF x1 a r x2 j ≤ 2473901162496 := by
  have k1 := Int.mul_le_mul_of_nonneg_left (opensF_le (a := a) (r := r) h2 h j) (ways_nonneg b d o j)
  have k2 := ways_le (b := b) (d := d) (o := o) (f := j) hb
  omega
theorem opens_nonneg {b d x1 a r x2 : Int} (h1 : 0 ≤ x1) (h2 : 0 ≤ x2) : 0 ≤ opens b d x1 a r x2 := sumTo_nonneg (n := (x1 + 1).toNat) (fun j _ => opensF_nonneg h1 h2 j) _ (Nat.le_refl _)
theorem opens_le {b d x1 a r x2 : Int} (hb : b ≤ 36) (h1 : 0 ≤ x1) (h2 : 0 ≤ x2) (h : x1 + x2 ≤ 36) : opens b d x1 a r x2 ≤ 91534343012352 := by
  have k := sumTo_le (b := b) (d := d) (o := x1) (f := opensF x1 a r x2) (n := (x1 + 1).toNat) (B := 2473901162496) (fun j _ => ways_opensF hb h2 h j) _ (Nat.le_refl _)
  unfold opens sum
  omega
end Pure

theorem below_after {w u v : World} (h : Below w.heap.size w u) (k : Below u.heap.size u v) : Below w.heap.size w v := h.trans (k.mono h.size)
abbrev doubleV (x1 a r x2 t : Int) : Value := .agg #[.int .i64 x1, .int .i64 a, .int .i64 r, .int .i64 x2, .int .i64 t]

set_option maxHeartbeats 1000000 in
set_option maxRecDepth 100000 in
/-- **again**. -/
theorem again_any (x1 a r x2 t o f : Int) (w : World) :
    Calls Tryz.prog 88 #[doubleV x1 a r x2 t, .agg #[.int .i64 o, .int .i64 f]] w fun e w' => e = .returned (.bool (Pure.again a r f)) ∧ Below w.heap.size w w' := by
  have hb : ∀ v : Bool, Pure.again a r f = v → Ending.returned (.bool v) = .returned (.bool (Pure.again a r f)) := fun v h => by rw [h]
  by_cases h1 : a < f
  · by_cases h2 : f < r
    · go_enter Tryz.func88, Tryz.ntmps88
      go_wp2_with fail
      go_ret
      refine ⟨hb _ (by simp [Pure.again, h1, h2]), ?_⟩
      repeat (first | exact Below.refl _ _ | refine Below.alloc ?_ (by simp; try omega) _)
    · go_enter Tryz.func88, Tryz.ntmps88
      go_wp2_with fail
      go_ret
      refine ⟨hb _ (by simp [Pure.again, h1, h2]), ?_⟩
      repeat (first | exact Below.refl _ _ | refine Below.alloc ?_ (by simp; try omega) _)
  · go_enter Tryz.func88, Tryz.ntmps88
    go_wp2_with fail
    go_ret
    refine ⟨hb _ (by simp [Pure.again]; omega), ?_⟩
    repeat (first | exact Below.refl _ _ | refine Below.alloc ?_ (by simp; try omega) _)

set_option maxHeartbeats 1000000 in
set_option maxRecDepth 100000 in
/-- **opens' function**. -/
theorem opensOne_any (X : Nat) (x1 a r x2 t o j : Int) (h1 : 0 ≤ x1) (h2 : 0 ≤ x2) (h12 : x1 + x2 ≤ 36) (w : World) (hX : w.heap[X]? = some (.cells #[.int .i64 x1, .int .i64 a, .int .i64 r, .int .i64 x2, .int .i64 t] 71)) :
    Calls Tryz.prog 89 #[.agg #[.int .i64 o, .int .i64 j], .pointer (some ⟨X, 0, none⟩)] w fun e w' => e = .returned (.int .i64 (Pure.opensF x1 a r x2 j)) ∧ Below w.heap.size w w' := by
  have hu := heap_up hX (.cells #[.int .i64 o, .int .i64 j] 37)
  have e0 := heap_cell hu (j := 0) rfl
  have e1 := heap_cell hu (j := 1) rfl
  have e2 := heap_cell hu (j := 2) rfl
  have e3 := heap_cell hu (j := 3) rfl
  have e4 := heap_cell hu (j := 4) rfl
  clear hX hu
  cases hag : Pure.again a r j with
  | true =>
    have HAG := Lib.hid hag
    clear hag
    go_enter Tryz.func89, Tryz.ntmps89
    go_wp2_with (go_at_call 88; refine (again_any _ _ _ _ _ _ _ _).mono ?_; rintro e w2 ⟨rfl, hb⟩; rw [HAG.out]; have g0 := below_cell hb e0; have g3 := below_cell hb e3)
    go_ret
    exact ⟨ret_int (Pure.opensF_true HAG.out).symm, below_after ((Below.refl _ _).alloc (Nat.le_refl _) _) hb⟩
  | false =>
    have HAG := Lib.hid hag
    clear hag
    go_enter Tryz.func89, Tryz.ntmps89
    go_wp2_with (go_at_call 88; refine (again_any _ _ _ _ _ _ _ _).mono ?_; rintro e w2 ⟨rfl, hb⟩; rw [HAG.out]; have g0 := below_cell hb e0; have g3 := below_cell hb e3)
    go_ret
    exact ⟨ret_int (Pure.opensF_false HAG.out).symm, below_after ((Below.refl _ _).alloc (Nat.le_refl _) _) hb⟩

set_option maxHeartbeats 2000000 in
set_option maxRecDepth 100000 in
/-- **opens**. -/
theorem opens_any {M T C : Nat} (b lo hi d x1 a r x2 t : Int) (hb0 : 0 ≤ b) (hb : b ≤ 36) (hd0 : -36 ≤ d) (hd : d ≤ 36) (hbd : b - d ≤ 36) (h1 : 0 ≤ x1) (h2 : 0 ≤ x2) (h12 : x1 + x2 ≤ b) (w : World) (hw : Cnt w M T C) :
    Calls Tryz.prog 66 #[holdV b lo hi T C, doubleV x1 a r x2 t, .int .i64 d] w fun e w' => e = .returned (partV (Pure.opens b d x1 a r x2) (Pure.sets b x1)) ∧ Step M w w' := by
  go_enter Tryz.func66, Tryz.ntmps66
  go_wp2_with fail
  obtain ⟨W1, hW1⟩ : ∃ W1, ((w.alloc (.cells #[.int .i64 b, .int .i64 lo, .int .i64 hi, setsV T C] 82)).alloc (.cells #[.int .i64 x1, .int .i64 a, .int .i64 r, .int .i64 x2, .int .i64 t] 71)).alloc (.cells #[.int .i64 0, .int .i64 0] 31) = W1 := ⟨_, rfl⟩
  have hS1 : Step M w W1 := by rw [← hW1]; exact (((Step.refl hw.memo).alloc _).alloc _).alloc _
  have hh1 : W1.heap[w.heap.size]? = some (.cells #[.int .i64 b, .int .i64 lo, .int .i64 hi, setsV T C] 82) := by rw [← hW1]; exact heap_up (heap_up (heap_top _ _ rfl) _) _
  have hd1 : W1.heap[w.heap.size + 1]? = some (.cells #[.int .i64 x1, .int .i64 a, .int .i64 r, .int .i64 x2, .int .i64 t] 71) := by rw [← hW1]; exact heap_up (heap_top _ _ (by simp)) _
  have hr1 : W1.heap[w.heap.size + 1 + 1]? = some (.cells #[.int .i64 0, .int .i64 0] 31) := by rw [← hW1]; exact heap_top _ _ (by simp)
  rw [hW1]
  have HS1 := Lib.hid hS1
  have HH1 := Lib.hid hh1
  have HD1 := Lib.hid hd1
  have HR1 := Lib.hid hr1
  have HW := Lib.hid hw
  have HN := Lib.hid hw.lt.1
  clear hW1 hS1 hh1 hd1 hr1 hw
  refine (sum_any b lo hi d x1 hb0 hb hd0 hd hbd h1 (by omega) 89 #[.pointer (some ⟨w.heap.size + 1, 0, none⟩)] (Pure.opensF x1 a r x2) _ (HW.out.step HS1.out) (enters_of Tryz.func89 (by kernel_rfl) rfl) (fun W hs j hj => ?_) (fun j _ => ⟨Pure.opensF_nonneg h1 h2 j, Int.le_trans (Pure.ways_opensF hb h2 (by omega) j) (by decide)⟩)).mono ?_
  · refine (opensOne_any (w.heap.size + 1) x1 a r x2 t x1 j h1 h2 (by omega) W (hs.heap HD1.out (by have := HN.out; omega))).mono ?_
    rintro e w' ⟨rfl, hb⟩
    exact ⟨rfl, Step.of_below hb hs.memo⟩
  · rintro e W2 ⟨rfl, hs⟩
    have hh2 := hs.heap HH1.out (by have := HN.out; omega)
    have hd2 := hs.heap HD1.out (by have := HN.out; omega)
    have g0 := heap_cell hh2 (j := 0) rfl
    have g1 := heap_cell hh2 (j := 1) rfl
    have g2 := heap_cell hh2 (j := 2) rfl
    have g3 := heap_cell hh2 (j := 3) rfl
    have d0 := heap_cell hd2 (j := 0) rfl
    have d1 := heap_cell hd2 (j := 1) rfl
    have d2 := heap_cell hd2 (j := 2) rfl
    have d3 := heap_cell hd2 (j := 3) rfl
    have d4 := heap_cell hd2 (j := 4) rfl
    have HS2 := Lib.hid hs
    have k0 : 0 ≤ Pure.opens b d x1 a r x2 := Pure.opens_nonneg h1 h2
    have k1 : Pure.opens b d x1 a r x2 ≤ 91534343012352 := Pure.opens_le hb h1 h2 (by omega)
    have k2 : 0 < Pure.sets b x1 := Pure.sets_pos h1 (by omega)
    have k3 : Pure.sets b x1 ≤ 68719476736 := Pure.sets_le (by omega)
    have HK := Lib.hid (And.intro k0 (And.intro k1 (And.intro k2 k3)))
    clear hs hh2 hd2 k0 k1 k2 k3
    go_wp2_with (first
      | (go_at_call 39; refine (draws_any b lo hi x1 hb _ (HW.out.step (HS1.out.trans HS2.out))).mono ?_; rintro e W3 ⟨rfl, hs3⟩; have hr3 := (HS2.out.trans hs3).heap HR1.out (by have := HN.out; omega); have HR3 := Lib.hid hr3; have HS3 := Lib.hid (HS1.out.trans (HS2.out.trans hs3)); clear hr3 hs3)
      | (go_at_call 38; refine (part_any _ _ HK.out.1 (by have := HK.out; omega) HK.out.2.2.1 (by have := HK.out; omega) _).mono ?_; rintro e W4 ⟨rfl, hb4⟩; have hr4 := (hb4.block _ (Array.getElem?_eq_some_iff.1 HR3.out).1).trans HR3.out; have r0 := heap_cell hr4 (j := 0) rfl; have r1 := heap_cell hr4 (j := 1) rfl; have f0 := heap_frozen hr4 0; have f1 := heap_frozen hr4 1; have HS4 := Lib.hid (HS3.out.trans (Step.of_below hb4 HS3.out.memo)); clear hr4 hb4))
    refine bodyPost_ret (v := partV (Pure.opens b d x1 a r x2) (Pure.sets b x1)) (by simp [results, Tryz.results66, go_sem, r0, r1]) rfl ⟨rfl, ?_⟩
    exact (HS4.out.setCell (p := ⟨w.heap.size + 1 + 1, 0, none⟩) (by simp; omega) HN.out _).setCell (p := ⟨w.heap.size + 1 + 1, 1, none⟩) (by simp; omega) HN.out _

end Go.Proofs.YtjegkkpdemoldaaGreatDoor
