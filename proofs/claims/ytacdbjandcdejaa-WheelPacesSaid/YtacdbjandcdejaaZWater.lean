/-
  The contract of checkWater.
-/
import Derived.Test.YtacdbjandcdejaaZPure
namespace Go.Proofs.Ytacdbjandcdejaa
open Go.RowKit

set_option maxHeartbeats 8000000 in
set_option maxRecDepth 100000 in
theorem checkWater_any (p : PlanX) (a : Option Addr) (m c : Nat) (F : Nat → Int) (b : Int) (_hn : p.tn ≤ 40) (hm : m ≤ 40) (w : World) (h : NumsAt w a m F) :
    Calls Try.prog 17 #[planV p, .slice a m c, .int .i64 b] w fun e w' => e = .returned (.int .i64 (Pure.err (Pure.waterB p.tn m F b) 2)) ∧ Below w.heap.size w w' := by
  obtain ⟨W, hW⟩ : ∃ W, w.alloc (planB p) = W := ⟨_, rfl⟩
  have HB : Hid (Below w.heap.size w W) := Lib.hid (by rw [← hW]; exact below_new _ _)
  have HX : Hid (W.heap[w.heap.size]? = some (planB p)) := Lib.hid (by rw [← hW]; exact heap_top _ _ rfl)
  have HP := Lib.hid (h.below HB.out)
  clear h
  obtain ⟨q, hq⟩ : ∃ q, Pure.waterB p.tn m F b = q := ⟨_, rfl⟩
  rw [hq]
  have HQ := Lib.hid hq
  clear hq
  have x1 := heap_cell HX.out (j := 1) rfl
  obtain ⟨r0, hr0⟩ : ∃ r, ((m : Int) == (p.tn : Int)) = r := ⟨_, rfl⟩
  have HR0 := Lib.hid hr0
  go_enter Try.func17, Try.ntmps17
  go_upto_region 1 with fail
  try rw [hW]
  clear hW
  cases r0
  · obtain rfl : q = false := by rw [← HQ.out, Pure.waterB, HR0.out]; rfl
    go_wp2_with fail
    refine (unless_anyG _ _ _).mono ?_
    rintro e u ⟨rfl, rfl⟩
    go_wp2_with fail
    go_ret
    exact ⟨rfl, HB.out⟩
  · go_wp2_with fail
    refine (within_numsG 0 100000 a m c F (by omega) _ HP.out).mono ?_
    rintro e u ⟨rfl, rfl⟩
    obtain ⟨r1, hr1⟩ : ∃ r, Pure.inSpan 0 100000 m F = r := ⟨_, rfl⟩
    rw [hr1]
    have HR1 := Lib.hid hr1
    clear hr1
    cases r1
    · obtain rfl : q = false := by rw [← HQ.out, Pure.waterB, HR0.out, HR1.out]; rfl
      go_wp2_with fail
      refine (unless_anyG _ _ _).mono ?_
      rintro e u ⟨rfl, rfl⟩
      go_wp2_with fail
      go_ret
      exact ⟨rfl, below_thn HB.out (below_new _ _)⟩
    · obtain ⟨r2, hr2⟩ : ∃ r, decide (1 ≤ b ∧ b ≤ 10000) = r := ⟨_, rfl⟩
      have HR2 := Lib.hid hr2
      clear hr2
      go_wp2_with fail
      refine (within1G 1 10000 b _ _ _ (first_cell _ _ _ (by simp)) r2 HR2.out).mono ?_
      rintro e u ⟨rfl, rfl⟩
      obtain rfl : q = r2 := by rw [← HQ.out, Pure.waterB, HR0.out, HR1.out, HR2.out]; simp
      go_wp2_with fail
      refine (unless_anyG _ _ _).mono ?_
      rintro e u ⟨rfl, rfl⟩
      go_wp2_with fail
      go_ret
      exact ⟨rfl, below_thn HB.out (below_thn (below_thn (below_new _ _) (below_new _ _)) (below_new _ _))⟩

end Go.Proofs.Ytacdbjandcdejaa
