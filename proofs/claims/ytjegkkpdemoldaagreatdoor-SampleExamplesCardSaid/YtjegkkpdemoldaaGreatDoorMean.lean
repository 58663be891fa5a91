/-
  The contracts of Mean and Ways.
-/
import Derived.Test.YtjegkkpdemoldaaGreatDoorChance
namespace Go.Proofs.YtjegkkpdemoldaaGreatDoor
open Go.RowKit Go.Shelf

namespace Pure
/-- How many dirty bags all sets of o bags have together. -/
def total (b d o : Int) : Int := sum b d o (fun j => j)
theorem total_nonneg {b d o : Int} : 0 ≤ total b d o := sumTo_nonneg (n := (o + 1).toNat) (fun j _ => by omega) _ (Nat.le_refl _)
theorem mul_le36 {x j : Int} (h0 : 0 ≤ x) (h : x ≤ 68719476736) (hj : j ≤ 36) : x * j ≤ 2473901162496 := by
  have h1 := Int.mul_le_mul_of_nonneg_left hj h0
  omega
theorem total_le {b d o : Int} (hb : b ≤ 36) (ho : o ≤ 36) : total b d o ≤ 91534343012352 := by
  have h := sumTo_le (b := b) (d := d) (o := o) (f := fun j => j) (n := (o + 1).toNat) (B := 2473901162496) (fun j hj => mul_le36 (ways_nonneg b d o j) (ways_le hb) (by omega)) _ (Nat.le_refl _)
  unfold total sum
  omega
end Pure

set_option maxHeartbeats 1000000 in
theorem meanOne_any (o j : Int) (w : World) :
    Calls Tryz.prog 37 #[.agg #[.int .i64 o, .int .i64 j]] w fun e w' => e = .returned (.int .i64 j) ∧ Below w.heap.size w w' := by
  go_enter Tryz.func37, Tryz.ntmps37
  go_wp2_with fail
  go_ret
  exact ⟨rfl, (Below.refl _ _).alloc (Nat.le_refl _) _⟩

set_option maxHeartbeats 2000000 in
set_option maxRecDepth 100000 in
/-- **Mean**. -/
theorem mean_any (b lo hi d o : Int) (w : World) :
    Calls Tryz.prog 7 #[cargoV b lo hi, .int .i64 d, .int .i64 o] w fun e w' => e = .returned (Pure.res2 (Pure.first3 (Pure.err (Pure.okCargo b lo hi) 10) (Pure.err (Pure.okIn lo hi d) 2) (Pure.err (Pure.okIn 0 b o) 2)) (partV (Pure.total b d o) (Pure.sets b o))) ∧ Below w.heap.size w w' := by
  go_enter Tryz.func7, Tryz.ntmps7
  go_upto_region 1 with fail
  obtain ⟨W1, hW1⟩ : ∃ W1, (w.alloc (.cells #[.int .i64 b, .int .i64 lo, .int .i64 hi] 28)).alloc (.cells #[.int .i64 0, .int .i64 0] 31) = W1 := ⟨_, rfl⟩
  have HB1 : Hid (Below w.heap.size w W1) := by rw [← hW1]; exact Lib.hid (((Below.refl _ _).alloc (Nat.le_refl _) _).alloc (by simp) _)
  have HSZ : Hid (W1.heap.size = w.heap.size + 2) := by rw [← hW1]; exact Lib.hid (by simp)
  have e : ∀ j v, (#[Value.int .i64 b, .int .i64 lo, .int .i64 hi])[j]? = some v → W1.cell? ⟨w.heap.size, j, none⟩ = some v := by rw [← hW1]; intro j v h; exact cell_up ((cells_top _ _ _ rfl j).trans h) _
  have r : ∀ j v, (#[Value.int .i64 0, .int .i64 0])[j]? = some v → W1.cell? ⟨w.heap.size + 1, j, none⟩ = some v := by rw [← hW1]; intro j v h; exact (cells_top _ _ _ (by simp) j).trans h
  have fr : ∀ j, W1.frozen? ⟨w.heap.size + 1, j, none⟩ = false := by rw [← hW1]; intro j; exact frozen_top _ _ _ (by simp) j
  rw [hW1]
  clear hW1
  have HK0 : Hid (W1.drew.cell? ⟨w.heap.size, 0, none⟩ = some (.int .i64 b) ∧ W1.drew.cell? ⟨w.heap.size, 1, none⟩ = some (.int .i64 lo) ∧ W1.drew.cell? ⟨w.heap.size, 2, none⟩ = some (.int .i64 hi) ∧ Below W1.heap.size W1 W1.drew) :=
    Lib.hid ⟨e 0 _ rfl, e 1 _ rfl, e 2 _ rfl, (Below.refl _ _).drew⟩
  have HKS : Hid (∀ u v : World, (u.cell? ⟨w.heap.size, 0, none⟩ = some (.int .i64 b) ∧ u.cell? ⟨w.heap.size, 1, none⟩ = some (.int .i64 lo) ∧ u.cell? ⟨w.heap.size, 2, none⟩ = some (.int .i64 hi) ∧ Below W1.heap.size W1 u) → Below u.heap.size u v →
      (v.cell? ⟨w.heap.size, 0, none⟩ = some (.int .i64 b) ∧ v.cell? ⟨w.heap.size, 1, none⟩ = some (.int .i64 lo) ∧ v.cell? ⟨w.heap.size, 2, none⟩ = some (.int .i64 hi) ∧ Below W1.heap.size W1 v)) :=
    Lib.hid (fun u v h k => ⟨below_cell k h.1, below_cell k h.2.1, below_cell k h.2.2.1, h.2.2.2.trans (k.mono h.2.2.2.size)⟩)
  have HE := Lib.hid e
  have HR := Lib.hid r
  have HFR := Lib.hid fr
  clear e r fr
  go_cut [8] (fun s wx => s = .int .i64 (Pure.first3 (Pure.err (Pure.okCargo b lo hi) 10) (Pure.err (Pure.okIn lo hi d) 2) (Pure.err (Pure.okIn 0 b o) 2)) ∧ Below W1.heap.size W1 wx)
  case first =>
    go_region_held3 (fun w' => w'.cell? ⟨w.heap.size, 0, none⟩ = some (.int .i64 b) ∧ w'.cell? ⟨w.heap.size, 1, none⟩ = some (.int .i64 lo) ∧ w'.cell? ⟨w.heap.size, 2, none⟩ = some (.int .i64 hi) ∧ Below W1.heap.size W1 w')
      (first | exact HK0.out | exact HKS.out _ _ (by assumption) (by assumption) | exact HKS.out _ _ (by assumption) ((Below.refl _ _).alloc (Nat.le_refl _) _))
      (first
        | (go_at_call 29; refine (check_any _ _ _ _).mono ?_; rintro e w' ⟨rfl, hb⟩)
        | (go_at_call 34; refine (checkOpened_any _ _ _ _ _).mono ?_; rintro e w' ⟨rfl, hb⟩)
        | (go_at_call 33; refine (checkDirty1 _ _ _ d _ _ _ ?_).mono ?_; (first | exact cell_top _ _ _ rfl | (refine below_cell (by assumption) ?_; (first | exact cell_top _ _ _ rfl | exact cell_top_drew _ _ _ rfl | (refine below_cell (by assumption) ?_; (first | exact cell_top _ _ _ rfl | exact cell_top_drew _ _ _ rfl))))); rintro e w' ⟨rfl, hb⟩)
        | (go_at_call 32; refine (firstError3 (Pure.err (Pure.okCargo b lo hi) 10) (Pure.err (Pure.okIn lo hi d) 2) (Pure.err (Pure.okIn 0 b o) 2) _ _ _ (cells_top _ _ _ rfl 0) (cells_top _ _ _ rfl 1) (cells_top _ _ _ rfl 2)).mono ?_; rintro e w' ⟨rfl, hb⟩))
    all_goals (go_wp2_with fail; go_meet; refine ⟨rfl, ?_⟩; exact And.right (And.right (And.right (by assumption))))
  case rest =>
    obtain ⟨rfl, hBc⟩ := hcut
    obtain ⟨code, hcode⟩ : ∃ c, Pure.first3 (Pure.err (Pure.okCargo b lo hi) 10) (Pure.err (Pure.okIn lo hi d) 2) (Pure.err (Pure.okIn 0 b o) 2) = c := ⟨_, rfl⟩
    rw [hcode]
    have r0 := below_cell hBc (HR.out 0 _ rfl)
    have r1 := below_cell hBc (HR.out 1 _ rfl)
    have f0 := below_frozen hBc (HR.out 0 _ rfl) (HFR.out 0)
    have f1 := below_frozen hBc (HR.out 1 _ rfl) (HFR.out 1)
    have HBC := Lib.hid hBc
    have HCODE := Lib.hid hcode
    clear hBc hcode HK0 HKS
    by_cases h0 : code = 0
    · subst h0
      obtain ⟨q1, q2, q3⟩ := Pure.first3_zero HCODE.out
      have q1 := Pure.err_zero q1 (by decide)
      have q2 := Pure.err_zero q2 (by decide)
      have q3 := Pure.err_zero q3 (by decide)
      unfold Pure.okCargo at q1
      unfold Pure.okIn at q2 q3
      simp only [decide_eq_true_eq] at q1 q2 q3
      obtain ⟨b1, b2, b3, b4, b5⟩ := q1
      obtain ⟨d1, d2⟩ := q2
      obtain ⟨o1, o2⟩ := q3
      have c0 := below_cell HBC.out (HE.out 0 _ rfl)
      have c1 := below_cell HBC.out (HE.out 1 _ rfl)
      have c2 := below_cell HBC.out (HE.out 2 _ rfl)
      go_wp2_with fail
      refine (work_any b lo hi _).mono ?_
      rintro e w2 ⟨M, T, C, rfl, hMw, hw2, hB2⟩
      have k2 := below_cell hB2 r0
      have k3 := below_cell hB2 r1
      have m2 := below_frozen hB2 r0 f0
      have m3 := below_frozen hB2 r1 f1
      have K2 := Lib.hid k2
      have K3 := Lib.hid k3
      have M2 := Lib.hid m2
      have M3 := Lib.hid m3
      have HMW := Lib.hid hMw
      have HB2 := Lib.hid hB2
      have HW2 := Lib.hid hw2
      clear hMw hB2 hw2 c0 c1 c2 r0 r1 f0 f1 k2 k3 m2 m3
      have HWA : Hid (Cnt (w2.alloc (.cells #[.int .i64 b, .int .i64 lo, .int .i64 hi, setsV T C] 82)) M T C) := Lib.hid (HW2.out.alloc _)
      go_wp2_with fail
      refine (sum_any b lo hi d o (by omega) b2 (by omega) (by omega) (by omega) o1 (by omega) 37 #[] (fun j => j) _ HWA.out (enters_of Tryz.func37 (by kernel_rfl) rfl) (fun W hs j hj => (meanOne_any o j W).mono fun e w' h => ⟨h.1, Step.of_below h.2 hs.memo⟩) (fun j hj => ⟨by omega, Int.le_trans (Pure.mul_le36 (Pure.ways_nonneg _ _ _ _) (Pure.ways_le b2) (by omega)) (by decide)⟩)).mono ?_
      rintro e w3 ⟨rfl, hs3⟩
      have h30 : ∀ j v, (#[Value.int .i64 b, .int .i64 lo, .int .i64 hi, setsV T C])[j]? = some v → w3.cell? ⟨w2.heap.size, j, none⟩ = some v := fun j v h => hs3.cell ((cells_top _ _ _ rfl j).trans h) (by have := HW2.out.memo.lt; simp; omega)
      have a0 := h30 0 _ rfl
      have a1 := h30 1 _ rfl
      have a2 := h30 2 _ rfl
      have a3 := h30 3 _ rfl
      have HS3 := Lib.hid hs3
      clear hs3 h30
      go_wp2_with fail
      refine (draws_any b lo hi o b2 _ (HWA.out.step HS3.out)).mono ?_
      rintro e w4 ⟨rfl, hs4⟩
      have HS4 := Lib.hid hs4
      clear hs4
      go_wp2_with fail
      refine (part_any _ _ Pure.total_nonneg (Int.le_trans (Pure.total_le b2 (by omega)) (by decide)) (Pure.sets_pos o1 o2) (Int.le_trans (Pure.sets_le b2) (by decide)) _).mono ?_
      rintro e w5 ⟨rfl, hb5⟩
      have hst : Step M w2 w5 := (((Step.refl HW2.out.memo).alloc _).trans (HS3.out.trans HS4.out)).trans (Step.of_below hb5 HS4.out.memo)
      have r0 := hst.cell K2.out (cell_not_map HW2.out.memo K2.out)
      have r1 := hst.cell K3.out (cell_not_map HW2.out.memo K3.out)
      have f0 := hst.frozen K2.out (cell_not_map HW2.out.memo K2.out) M2.out
      have f1 := hst.frozen K3.out (cell_not_map HW2.out.memo K3.out) M3.out
      have HST := Lib.hid hst
      clear hst hb5 a0 a1 a2 a3
      go_wp2_with fail
      refine bodyPost_ret (v := .tuple #[partV (Pure.total b d o) (Pure.sets b o), .int .i64 0]) (by simp [results, Tryz.results7, go_sem, r0, r1]) rfl ⟨?_, ?_⟩
      · rw [HCODE.out, Pure.res2_zero rfl]
      · have z1 := HSZ.out
        have z2 := HBC.out.size
        have z3 := HB2.out.size
        have z4 := HMW.out
        have hB : Below w.heap.size w w5 := below_step ((HB1.out.trans (HBC.out.mono (by omega))).trans (HB2.out.mono (by omega))) HST.out (by omega) (by omega)
        exact (hB.setCell (p := ⟨w.heap.size + 1, 0, none⟩) (by simp) _).setCell (p := ⟨w.heap.size + 1, 1, none⟩) (by simp) _
    · have hne : (code != 0) = true := by simpa using h0
      have H0 := Lib.hid h0
      clear h0
      go_wp2_with fail
      refine bodyPost_ret (v := .tuple #[.agg #[.int .i64 0, .int .i64 0], .int .i64 code]) (by simp [results, Tryz.results7, go_sem, r0, r1]) rfl ⟨?_, ?_⟩
      · rw [HCODE.out, Pure.res2_err H0.out]
      · exact ((HB1.out.trans (HBC.out.mono (by have := HSZ.out; omega))).setCell (p := ⟨w.heap.size + 1, 0, none⟩) (by simp) _).setCell (p := ⟨w.heap.size + 1, 1, none⟩) (by simp) _

namespace Pure
def okWays (n k : Int) : Bool := decide (0 ≤ n ∧ n ≤ 36 ∧ 0 ≤ k ∧ k ≤ n)
/-- A number with an error: without one if the code is 0. -/
def resI (code : Int) (v : Int) : Value := if code = 0 then .tuple #[.int .i64 v, .int .i64 0] else .tuple #[.int .i64 0, .int .i64 code]
theorem resI_zero {code : Int} (h : code = 0) (v : Int) : resI code v = .tuple #[.int .i64 v, .int .i64 0] := by unfold resI; rw [if_pos h]
theorem resI_err {code : Int} (h : code ≠ 0) (v : Int) : resI code v = .tuple #[.int .i64 0, .int .i64 code] := by unfold resI; rw [if_neg h]
end Pure

set_option maxHeartbeats 2000000 in
set_option maxRecDepth 100000 in
/-- **Ways**. -/
theorem waysTop_any (n k : Int) (w : World) :
    Calls Tryz.prog 22 #[.int .i64 n, .int .i64 k] w fun e w' => e = .returned (Pure.resI (Pure.err (Pure.okWays n k) 2) (Pure.sets n k)) ∧ Below w.heap.size w w' := by
  have hb1 : ∃ r1, (decide (0 ≤ n) && decide (n ≤ 36)) = r1 := ⟨_, rfl⟩
  have hb2 : ∃ r2, (decide (0 ≤ k) && decide (k ≤ n)) = r2 := ⟨_, rfl⟩
  obtain ⟨r1, h1⟩ := hb1
  obtain ⟨r2, h2⟩ := hb2
  have HF : Hid (Pure.okWays n k = (r1 && r2)) := by
    subst h1
    subst h2
    refine Lib.hid ?_
    unfold Pure.okWays
    rw [Bool.eq_iff_iff]
    simp
    omega
  have H1 := Lib.hid h1
  have H2 := Lib.hid h2
  clear h1 h2
  go_enter Tryz.func22, Tryz.ntmps22
  go_wp2_with fail
  refine (within1 0 36 n _ 1 _ (cells_top _ _ _ rfl 0) r1 H1.out).mono ?_
  rintro e w' ⟨rfl, rfl⟩
  cases r1
  · go_wp2_with fail
    go_ret2
    refine ⟨by rw [HF.out]; rfl, ?_⟩
    repeat (first | exact Below.refl _ _ | refine Below.alloc ?_ (by simp; try omega) _)
  · go_wp2_with fail
    refine (within1 0 n k _ 1 _ (cells_top _ _ _ (by simp) 0) r2 H2.out).mono ?_
    rintro e w' ⟨rfl, rfl⟩
    cases r2
    · go_wp2_with fail
      go_ret2
      refine ⟨by rw [HF.out]; rfl, ?_⟩
      repeat (first | exact Below.refl _ _ | refine Below.alloc ?_ (by simp; try omega) _)
    · have hn : n ≤ 36 := by have := H1.out; simp at this; omega
      have HB : Hid (Below w.heap.size w ((((w.alloc (.cells #[.int .i64 n] 3)).alloc (.cells #[.int .i64 0, .int .i64 36] 26)).alloc (.cells #[.int .i64 k] 3)).alloc (.cells #[.int .i64 0, .int .i64 n] 26))) := Lib.hid (by repeat (first | exact Below.refl _ _ | refine Below.alloc ?_ (by simp; try omega) _))
      go_wp2_with fail
      refine (counter_any _).mono ?_
      rintro e w2 ⟨M, T, C, rfl, hM, hw2, hg2⟩
      have HB2 : Hid (Below w.heap.size w w2) := Lib.hid (HB.out.grown hg2 (by simp; omega) (fun k e => by cases e))
      have HM : Hid (w.heap.size ≤ M) := Lib.hid (by simp at hM; omega)
      have HW2 := Lib.hid hw2
      clear hM hw2 hg2
      go_wp2_with fail
      refine (count_calls hn HW2.out).mono ?_
      rintro e w3 ⟨rfl, hs⟩
      have HS := Lib.hid hs
      clear hs
      go_wp2_with fail
      go_ret2
      exact ⟨by rw [HF.out]; rfl, below_step HB2.out HS.out HB2.out.size HM.out⟩

end Go.Proofs.YtjegkkpdemoldaaGreatDoor
