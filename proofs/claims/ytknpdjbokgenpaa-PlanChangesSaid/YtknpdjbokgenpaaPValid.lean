/-
  The contracts of firstError at two codes, and of valid.
-/
import Derived.Test.YtknpdjbokgenpaaPCopied
namespace Go.Proofs.Ytknpdjbokgenpaa
open Go.RowKit

set_option maxHeartbeats 1000000 in
set_option maxRecDepth 100000 in
theorem firstError2 (x y : Int) (b cap : Nat) (w : World) (h0 : w.cell? ⟨b, 0, none⟩ = some (.int .i64 x)) (h1 : w.cell? ⟨b, 1, none⟩ = some (.int .i64 y)) :
    Calls Try.prog 14 #[.slice (some ⟨b, 0, none⟩) 2 cap] w fun e w' => e = .returned (.int .i64 (if x = 0 then y else x)) ∧ w = w' := by
  have H0 := Lib.hid h0
  have H1 := Lib.hid h1
  clear h0 h1
  go_enter Try.func14, Try.ntmps14
  go_wp2_with fail
  go_loop [4, 7] (fun _ i => ∃ k : Nat, k ≤ 2 ∧ i = .int .i64 k ∧ (0 < k → x = 0) ∧ (1 < k → y = 0)) (fun _ i => 2 - (intOf i).toNat)
  case atStart => exact ⟨0, Nat.zero_le _, rfl, by omega, by omega⟩
  case round =>
    obtain ⟨k, hk, rfl, q0, q1⟩ := hrel
    have HQ := Lib.hid (And.intro q0 q1)
    clear q0 q1
    have hk3 : k = 0 ∨ k = 1 ∨ k = 2 := by omega
    rcases hk3 with rfl | rfl | rfl
    · have c0 := H0.out
      by_cases hx : x = 0
      · subst hx
        go_wp2_with fail
        go_round
        case rel => exact ⟨1, by omega, rfl, fun _ => by first | rfl | trivial, by omega⟩
        case measure => simp [intOf]
      · have hne : (x != 0) = true := by simpa using hx
        have HNX := Lib.hid hx
        clear hx
        go_wp2_with fail
        go_ret
        exact ⟨ret_int (by first | rfl | rw [if_neg HNX.out]), rfl⟩
    · have c0 := H1.out
      have HX0 := Lib.hid (HQ.out.1 (by omega))
      by_cases hy : y = 0
      · have HY0 := Lib.hid hy
        subst hy
        go_wp2_with fail
        go_round
        case rel => exact ⟨2, by omega, rfl, fun _ => (by first | exact HX0.out | trivial), fun _ => (by first | rfl | trivial)⟩
        case measure => simp [intOf]
      · have hne : (y != 0) = true := by simpa using hy
        clear hy
        go_wp2_with fail
        go_ret
        exact ⟨ret_int (by first | rfl | rw [if_pos HX0.out]), rfl⟩
    · have HX0 := Lib.hid (HQ.out.1 (by omega))
      have HY0 := Lib.hid (HQ.out.2 (by omega))
      go_wp2_with fail
      go_ret
      exact ⟨ret_int (by first | exact HY0.out.symm | rw [if_pos HX0.out, HY0.out]), rfl⟩

/-- No plan. -/
abbrev noPlan : PlanX := ⟨0, none, 0, 0, 0, 0, none, 0, 0, none, 0, 0, 0⟩
set_option maxHeartbeats 2000000 in
set_option maxRecDepth 100000 in
theorem valid_any (p : PlanX) (en : Int) (T A S : Nat → Int) (hn : p.tn ≤ 40) (ha : p.an ≤ 40) (hs : p.sn ≤ 40) (w : World) (h : PlanAt w p T A S) :
    Calls Try.prog 22 #[planV p, .int .i64 en] w fun e w' => e = .returned (.tuple #[planV (if Pure.plan p T A S then p else noPlan), .int .i64 (Pure.err (Pure.plan p T A S) en)]) ∧ Below w.heap.size w w' := by
  obtain ⟨W, hW⟩ : ∃ W, (w.alloc (planB p)).alloc (planB noPlan) = W := ⟨_, rfl⟩
  have HB : Hid (Below w.heap.size w W) := Lib.hid (by rw [← hW]; exact (below_new _ _).alloc (by simp) _)
  have HX : Hid (W.heap[w.heap.size]? = some (planB p)) := Lib.hid (by rw [← hW]; exact heap_up (heap_top _ _ rfl) _)
  have HY : Hid (W.heap[w.heap.size + 1]? = some (planB noPlan)) := Lib.hid (by rw [← hW]; exact heap_top _ _ (by simp))
  have HP : Hid (PlanAt W p T A S) := Lib.hid (h.below HB.out)
  clear h
  obtain ⟨r, hr⟩ : ∃ r, Pure.plan p T A S = r := ⟨_, rfl⟩
  rw [hr]
  have HR := Lib.hid hr
  clear hr
  have x0 := heap_cell HX.out (j := 0) rfl
  have x1 := heap_cell HX.out (j := 1) rfl
  have x2 := heap_cell HX.out (j := 2) rfl
  have x3 := heap_cell HX.out (j := 3) rfl
  have x4 := heap_cell HX.out (j := 4) rfl
  have x5 := heap_cell HX.out (j := 5) rfl
  have x6 := heap_cell HX.out (j := 6) rfl
  go_enter Try.func22, Try.ntmps22
  go_upto_region 1 with fail
  try rw [hW]
  clear hW
  go_wp2_with fail
  refine (check_any p T A S hn ha hs _ HP.out).mono ?_
  rintro e w2 ⟨rfl, hb⟩
  rw [HR.out]
  clear x0 x1 x2 x3 x4 x5 x6
  have HX2 := Lib.hid (heap_lft HX.out hb)
  have HY2 := Lib.hid (heap_lft HY.out hb)
  have HB2 := Lib.hid (below_thn HB.out hb)
  clear hb
  have x0 := heap_cell HX2.out (j := 0) rfl
  have x1 := heap_cell HX2.out (j := 1) rfl
  have x2 := heap_cell HX2.out (j := 2) rfl
  have x3 := heap_cell HX2.out (j := 3) rfl
  have x4 := heap_cell HX2.out (j := 4) rfl
  have x5 := heap_cell HX2.out (j := 5) rfl
  have x6 := heap_cell HX2.out (j := 6) rfl
  have y0 := heap_cell HY2.out (j := 0) rfl
  have y1 := heap_cell HY2.out (j := 1) rfl
  have y2 := heap_cell HY2.out (j := 2) rfl
  have y3 := heap_cell HY2.out (j := 3) rfl
  have y4 := heap_cell HY2.out (j := 4) rfl
  have y5 := heap_cell HY2.out (j := 5) rfl
  have y6 := heap_cell HY2.out (j := 6) rfl
  have f0 := heap_frozen HY2.out 0
  have f1 := heap_frozen HY2.out 1
  have f2 := heap_frozen HY2.out 2
  have f3 := heap_frozen HY2.out 3
  have f4 := heap_frozen HY2.out 4
  have f5 := heap_frozen HY2.out 5
  have f6 := heap_frozen HY2.out 6
  cases r
  · have e1 : (Pure.err false 40 != 0) = true := rfl
    go_wp2_with fail
    refine bodyPost_ret (v := .tuple #[planV noPlan, .int .i64 en]) (by simp [results, Try.results22, go_sem, y0, y1, y2, y3, y4, y5, y6]; try rfl) rfl ⟨rfl, ?_⟩
    repeat (first | with_reducible exact HB2.out | with_reducible refine Below.setCell ?_ (by simp) _)
  · have e1 : (Pure.err true 40 != 0) = false := rfl
    go_wp2_with fail
    refine bodyPost_ret (v := .tuple #[planV p, .int .i64 0]) (by simp [results, Try.results22, go_sem, y0, y1, y2, y3, y4, y5, y6]; try rfl) rfl ⟨rfl, ?_⟩
    repeat (first | with_reducible exact HB2.out | with_reducible refine Below.setCell ?_ (by simp) _)

end Go.Proofs.Ytknpdjbokgenpaa
