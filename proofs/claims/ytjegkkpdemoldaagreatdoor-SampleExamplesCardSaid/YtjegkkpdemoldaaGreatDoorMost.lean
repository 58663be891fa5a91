/-
  The contracts of few and atMost: how many sets of so many bags have at most so many dirty ones, and the chance of it.
-/
import Derived.Test.YtjegkkpdemoldaaGreatDoorSum
import Derived.Test.YtjegkkpdemoldaaGreatDoorWithin
import Derived.Test.YtjegkkpdemoldaaGreatDoorTail
import Derived.Shelf.Abstract
namespace Go.Proofs.YtjegkkpdemoldaaGreatDoor
open Go.RowKit Go.Shelf

namespace Pure
/-- 1 if j is at most m, otherwise 0. -/
def ind (m j : Int) : Int := if j ≤ m then 1 else 0
theorem ind_le {m j : Int} (h : j ≤ m) : ind m j = 1 := by unfold ind; rw [if_pos h]
theorem ind_gt {m j : Int} (h : ¬ j ≤ m) : ind m j = 0 := by unfold ind; rw [if_neg h]
theorem ind_nonneg (m j : Int) : 0 ≤ ind m j := by unfold ind; split <;> omega
theorem ind_le_one (m j : Int) : ind m j ≤ 1 := by unfold ind; split <;> omega
/-- How many sets of o bags have at most m dirty ones. -/
def few (b d o m : Int) : Int := sum b d o (ind m)
theorem mul_ind_le {x m j B : Int} (h0 : 0 ≤ x) (h : x ≤ B) : x * ind m j ≤ B := by
  have := Int.mul_le_mul_of_nonneg_left (ind_le_one m j) h0
  omega
theorem few_nonneg {b d o m : Int} : 0 ≤ few b d o m := sumTo_nonneg (n := (o + 1).toNat) (fun j _ => ind_nonneg m j) _ (Nat.le_refl _)
theorem few_le {b d o m : Int} (hb : b ≤ 36) (ho : o ≤ 36) : few b d o m ≤ 2542620639232 := by
  have h := sumTo_le (b := b) (d := d) (o := o) (f := ind m) (n := (o + 1).toNat) (B := 68719476736) (fun j _ => mul_ind_le (ways_nonneg b d o j) (ways_le hb)) _ (Nat.le_refl _)
  unfold few sum
  omega
theorem sets_pos {n k : Int} (h0 : 0 ≤ k) (h1 : k ≤ n) : 0 < sets n k := by
  rw [sets_some h0 h1]
  have := ch_pos n.toNat k.toNat (by omega)
  omega
end Pure

/-- A fraction in lowest terms, as a value. -/
abbrev partV (n d : Int) : Value := .agg #[.int .i64 (n / Pure.gcd n d), .int .i64 (d / Pure.gcd n d)]

set_option maxHeartbeats 1000000 in
theorem fewOne_any (X : Nat) (o j m : Int) (w : World) (hX : w.cell? ⟨X, 0, none⟩ = some (.int .i64 m)) :
    Calls Tryz.prog 94 #[.agg #[.int .i64 o, .int .i64 j], .pointer (some ⟨X, 0, none⟩)] w fun e w' => e = .returned (.int .i64 (Pure.ind m j)) ∧ Below w.heap.size w w' := by
  have hX1 := cell_up hX (.cells #[.int .i64 o, .int .i64 j] 37)
  clear hX
  by_cases h : j ≤ m
  · go_enter Tryz.func94, Tryz.ntmps94
    go_wp2_with fail
    go_ret
    exact ⟨ret_int (Pure.ind_le h).symm, (Below.refl _ _).alloc (Nat.le_refl _) _⟩
  · go_enter Tryz.func94, Tryz.ntmps94
    go_wp2_with fail
    go_ret
    exact ⟨ret_int (Pure.ind_gt (by omega)).symm, (Below.refl _ _).alloc (Nat.le_refl _) _⟩

/-- New blocks alone leave the memo as it is. -/
theorem Step.of_below {M : Nat} {w w' : World} (h : Below w.heap.size w w') (hM : Memo w M) : Step M w w' :=
  ⟨⟨h.os, h.tape, h.output, h.size, fun k hk _ => h.block k hk⟩, hM.kept (h.block M hM.lt)⟩

set_option maxHeartbeats 1000000 in
set_option maxRecDepth 100000 in
/-- **few**. -/
theorem few_any {M T C : Nat} (b lo hi d o m : Int) (hb0 : 0 ≤ b) (hb : b ≤ 36) (hd0 : -36 ≤ d) (hd : d ≤ 36) (hbd : b - d ≤ 36) (ho0 : 0 ≤ o) (ho : o ≤ 36) (w : World) (hw : Cnt w M T C) :
    Calls Tryz.prog 84 #[holdV b lo hi T C, .int .i64 d, .int .i64 o, .int .i64 m] w fun e w' => e = .returned (.int .i64 (Pure.few b d o m)) ∧ Step M w w' := by
  have hW := (hw.alloc (.cells #[.int .i64 b, .int .i64 lo, .int .i64 hi, setsV T C] 82)).alloc (.cells #[.int .i64 m] 3)
  have hX : ((w.alloc (.cells #[.int .i64 b, .int .i64 lo, .int .i64 hi, setsV T C] 82)).alloc (.cells #[.int .i64 m] 3)).cell? ⟨w.heap.size + 1, 0, none⟩ = some (.int .i64 m) := cell_top _ _ _ (by simp)
  have HS : Hid (Step M w ((w.alloc (.cells #[.int .i64 b, .int .i64 lo, .int .i64 hi, setsV T C] 82)).alloc (.cells #[.int .i64 m] 3))) := Lib.hid (((Step.refl hw.memo).alloc _).alloc _)
  have HW := Lib.hid hW
  have HX := Lib.hid hX
  clear hW hX hw
  go_enter Tryz.func84, Tryz.ntmps84
  go_wp2_with fail
  refine (sum_any b lo hi d o hb0 hb hd0 hd hbd ho0 ho 94 #[.pointer (some ⟨w.heap.size + 1, 0, none⟩)] (Pure.ind m) _ HW.out (enters_of Tryz.func94 (by kernel_rfl) rfl) (fun W hs j hj => ?_) (fun j _ => ⟨Pure.ind_nonneg m j, Pure.mul_ind_le (Pure.ways_nonneg _ _ _ _) (Int.le_trans (Pure.ways_le hb) (by decide))⟩)).mono ?_
  · refine (fewOne_any (w.heap.size + 1) o j m W (hs.cell HX.out (cell_not_map HW.out.memo HX.out))).mono ?_
    rintro e w' ⟨rfl, hb⟩
    exact ⟨rfl, Step.of_below hb hs.memo⟩
  · rintro e w' ⟨rfl, hs⟩
    have HS2 := Lib.hid hs
    clear hs
    go_wp2_with fail
    go_ret
    exact ⟨rfl, HS.out.trans HS2.out⟩

set_option maxHeartbeats 2000000 in
set_option maxRecDepth 100000 in
/-- **atMost**. -/
theorem holdAtMost_any {M T C : Nat} (b lo hi d o f : Int) (hb0 : 0 ≤ b) (hb : b ≤ 36) (hd0 : -36 ≤ d) (hd : d ≤ 36) (hbd : b - d ≤ 36) (ho0 : 0 ≤ o) (ho : o ≤ b) (w : World) (hw : Cnt w M T C) :
    Calls Tryz.prog 61 #[holdV b lo hi T C, .int .i64 d, .agg #[.int .i64 o, .int .i64 f]] w fun e w' => e = .returned (partV (Pure.few b d o f) (Pure.sets b o)) ∧ Step M w w' := by
  go_enter Tryz.func61, Tryz.ntmps61
  go_wp2_with fail
  obtain ⟨W1, hW1⟩ : ∃ W1, ((w.alloc (.cells #[.int .i64 b, .int .i64 lo, .int .i64 hi, setsV T C] 82)).alloc (.cells #[.int .i64 o, .int .i64 f] 37)).alloc (.cells #[.int .i64 0, .int .i64 0] 31) = W1 := ⟨_, rfl⟩
  have HS : Hid (Step M w W1) := by rw [← hW1]; exact Lib.hid ((((Step.refl hw.memo).alloc _).alloc _).alloc _)
  have HW : Hid (Cnt W1 M T C) := Lib.hid (hw.step HS.out)
  have HWM : Hid (M < w.heap.size) := Lib.hid hw.memo.lt
  have e : ∀ j v, (#[Value.int .i64 b, .int .i64 lo, .int .i64 hi, setsV T C])[j]? = some v → W1.cell? ⟨w.heap.size, j, none⟩ = some v := by rw [← hW1]; intro j v h; exact cell_up (cell_up ((cells_top _ _ _ rfl j).trans h) _) _
  have g : ∀ j v, (#[Value.int .i64 o, .int .i64 f])[j]? = some v → W1.cell? ⟨w.heap.size + 1, j, none⟩ = some v := by rw [← hW1]; intro j v h; exact cell_up ((cells_top _ _ _ (by simp) j).trans h) _
  have r : ∀ j v, (#[Value.int .i64 0, .int .i64 0])[j]? = some v → W1.cell? ⟨w.heap.size + 1 + 1, j, none⟩ = some v := by rw [← hW1]; intro j v h; exact (cells_top _ _ _ (by simp) j).trans h
  have fr : ∀ j, W1.frozen? ⟨w.heap.size + 1 + 1, j, none⟩ = false := by rw [← hW1]; intro j; exact frozen_top _ _ _ (by simp) j
  rw [hW1]
  clear hW1 hw
  have x0 := among_cell HW.out.memo (e 0 _ rfl)
  have x1 := among_cell HW.out.memo (e 1 _ rfl)
  have x2 := among_cell HW.out.memo (e 2 _ rfl)
  have x3 := among_cell HW.out.memo (e 3 _ rfl)
  have y0 := among_cell HW.out.memo (g 0 _ rfl)
  have y1 := among_cell HW.out.memo (g 1 _ rfl)
  have HR := Lib.hid r
  have HFR := Lib.hid fr
  clear e g r fr
  have HC1 : Hid (∀ x : Among (Step M W1), Calls Tryz.prog 84 #[holdV b lo hi T C, .int .i64 d, .int .i64 o, .int .i64 f] x.val fun e w' => e = .returned (.int .i64 (Pure.few b d o f)) ∧ ∃ y : Among (Step M W1), w' = y.val) :=
    Lib.hid (fun x => calls_class ((few_any b lo hi d o f hb0 hb hd0 hd hbd ho0 (by omega) x.val (HW.out.step x.ok)).mono fun e w' h => ⟨h.1, x.ok.trans h.2⟩))
  have HC2 : Hid (∀ x : Among (Step M W1), Calls Tryz.prog 39 #[holdV b lo hi T C, .int .i64 o] x.val fun e w' => e = .returned (.int .i64 (Pure.sets b o)) ∧ ∃ y : Among (Step M W1), w' = y.val) :=
    Lib.hid (fun x => calls_class ((draws_any b lo hi o hb x.val (HW.out.step x.ok)).mono fun e w' h => ⟨h.1, x.ok.trans h.2⟩))
  have HC3 : Hid (∀ x : Among (Step M W1), Calls Tryz.prog 38 #[.int .i64 (Pure.few b d o f), .int .i64 (Pure.sets b o)] x.val fun e w' => e = .returned (partV (Pure.few b d o f) (Pure.sets b o)) ∧ ∃ y : Among (Step M W1), w' = y.val) :=
    Lib.hid (fun x => calls_class ((part_any _ _ Pure.few_nonneg (Int.le_trans (Pure.few_le hb (by omega)) (by decide)) (Pure.sets_pos ho0 ho) (Int.le_trans (Pure.sets_le hb) (by decide)) x.val).mono fun e w' h => ⟨h.1, x.ok.trans (Step.of_below h.2 x.ok.memo)⟩))
  have HSt : Hid (Step M W1 W1.drew) := Lib.hid (Step.refl HW.out.memo).drew
  have hne : Nonempty (Among (Step M W1)) := ⟨⟨_, HSt.out⟩⟩
  refine wp_region_tail 12 (Step M W1) (by kernel_rfl) (by kernel_rfl) HSt.out ?_
  simp only [List.take_succ_cons, List.take_zero, List.drop_succ_cons, List.drop_zero]
  repeat (go_big_quiet_step ((first | (go_at_call 84; exact HC1.out _) | (go_at_call 39; exact HC2.out _) | (go_at_call 38; exact HC3.out _))))
  refine wpQuiet_nil ?_
  intro w2 hx
  have hS2 := among_out hx
  clear hx
  have r0 := hS2.cell (HR.out 0 _ rfl) (cell_not_map HW.out.memo (HR.out 0 _ rfl))
  have r1 := hS2.cell (HR.out 1 _ rfl) (cell_not_map HW.out.memo (HR.out 1 _ rfl))
  have f0 := hS2.frozen (HR.out 0 _ rfl) (cell_not_map HW.out.memo (HR.out 0 _ rfl)) (HFR.out 0)
  have f1 := hS2.frozen (HR.out 1 _ rfl) (cell_not_map HW.out.memo (HR.out 1 _ rfl)) (HFR.out 1)
  have HS2 := Lib.hid hS2
  clear hS2 hne x0 x1 x2 x3 y0 y1
  go_wp2_with fail
  refine bodyPost_ret (v := partV (Pure.few b d o f) (Pure.sets b o)) (by simp [results, Tryz.results61, go_sem, r0, r1]) rfl ⟨rfl, ?_⟩
  exact ((HS.out.trans HS2.out).setCell (p := ⟨w.heap.size + 1 + 1, 0, none⟩) (by simp; omega) HWM.out _).setCell (p := ⟨w.heap.size + 1 + 1, 1, none⟩) (by simp; omega) HWM.out _

end Go.Proofs.YtjegkkpdemoldaaGreatDoor
