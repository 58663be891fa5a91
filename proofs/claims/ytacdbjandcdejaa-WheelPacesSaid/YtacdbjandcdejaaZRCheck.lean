/-
  The contract of the specification's Check.
-/
import Derived.Test.YtacdbjandcdejaaZPure
namespace Go.Proofs.Ytacdbjandcdejaa
open Go.RowKit

set_option maxHeartbeats 4000000 in
set_option maxRecDepth 100000 in
theorem rCheckPlan_any (p : PlanX) (T A S : Nat → Int) (hn : p.tn ≤ 40) (ha : p.an ≤ 40) (hs : p.sn ≤ 40) (hbA : ∀ j, j < p.an * 2 → A j ≤ 9223372036854775807) (hbS : ∀ j, j < p.sn * 4 → S j ≤ 9223372036854775807) (w : World) (h : PlanAt w p T A S) :
    Calls Try.prog 21 #[planV p] w fun e w' => e = .returned (.int .i64 (Pure.err (Pure.plan p T A S) 40)) ∧ Below w.heap.size w w' := by
  obtain ⟨W, hW⟩ : ∃ W, w.alloc (planB p) = W := ⟨_, rfl⟩
  have HB : Hid (Below w.heap.size w W) := Lib.hid (by rw [← hW]; exact below_new _ _)
  have HX : Hid (W.heap[w.heap.size]? = some (planB p)) := Lib.hid (by rw [← hW]; exact heap_top _ _ rfl)
  have HP : Hid (PlanAt W p T A S) := Lib.hid (h.below HB.out)
  have HG := Lib.hid (And.intro hbA hbS)
  clear h hbA hbS
  have x0 := heap_cell HX.out (j := 0) rfl
  have x1 := heap_cell HX.out (j := 1) rfl
  have x2 := heap_cell HX.out (j := 2) rfl
  have x3 := heap_cell HX.out (j := 3) rfl
  have x4 := heap_cell HX.out (j := 4) rfl
  have x5 := heap_cell HX.out (j := 5) rfl
  have x6 := heap_cell HX.out (j := 6) rfl
  obtain ⟨r, hr⟩ : ∃ r, Pure.plan p T A S = r := ⟨_, rfl⟩
  rw [hr]
  have HR := Lib.hid hr
  clear hr
  go_enter Try.func21, Try.ntmps21
  go_upto_region 1 with fail
  try rw [hW]
  clear hW
  go_wp2_with fail
  refine (rPlan_any p T A S hn ha hs HG.out.1 HG.out.2 _ HP.out).mono ?_
  rintro e u ⟨rfl, hb⟩
  rw [HR.out]
  have HBu := Lib.hid (below_thn HB.out hb)
  clear hb
  cases r
  all_goals
    go_wp2_with fail
    go_ret
    exact ⟨rfl, HBu.out⟩

end Go.Proofs.Ytacdbjandcdejaa
