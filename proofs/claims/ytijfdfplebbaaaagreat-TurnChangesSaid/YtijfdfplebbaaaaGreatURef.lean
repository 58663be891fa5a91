/-
  The contracts of the specification's Man, Shift, Thing, within.
-/
import Derived.Test.YtijfdfplebbaaaaGreatUPut
import Derived.Test.YtijfdfplebbaaaaGreatQRef
namespace Go.Proofs.YtijfdfplebbaaaaGreat
open Go.RowKit

theorem rrWithin (n lo hi : Int) (r : Bool) (hr : decide (lo ≤ n ∧ n ≤ hi) = r) (w : World) : Calls Tryz.prog 44 #[.int .i64 n, .int .i64 lo, .int .i64 hi] w fun e w' => e = .returned (.bool r) ∧ w = w' := by
  subst hr
  go_enter Tryz.func44, Tryz.ntmps44
  by_cases h : lo ≤ n
  · go_wp2_with fail
    go_ret
    exact ⟨ret_bool (by simp [h]), rfl⟩
  · go_wp2_with fail
    go_ret
    exact ⟨ret_bool (by simp; omega), rfl⟩
set_option maxHeartbeats 2000000 in
set_option maxRecDepth 100000 in
theorem rMan_any (r : RollX) (d : RollD) (id : Int) (hN : RollN r) (w : World) (hR : RollAt w r d) :
    Calls Tryz.prog 62 #[rollV r, .int .i64 id] w fun e w' => e = .returned (.int .i64 (Pure.firstAt (fun j => d.M j == id) r.mn)) ∧ Below w.heap.size w w' := by
  obtain ⟨W, hW⟩ : ∃ W, w.alloc (rollB r) = W := ⟨_, rfl⟩
  have HB : Hid (Below w.heap.size w W) := Lib.hid (by rw [← hW]; exact below_new _ _)
  have HX : Hid (W.heap[w.heap.size]? = some (rollB r)) := Lib.hid (by rw [← hW]; exact heap_top _ _ rfl)
  have HR := Lib.hid (hR.below HB.out)
  have HNM := Lib.hid hN.m
  clear hR
  go_enter Tryz.func62, Tryz.ntmps62
  go_upto_region 1 with fail
  try rw [hW]
  clear hW
  go_wp2_with fail
  go_loopw [5] (fun i wr => ∃ k : Nat, k ≤ r.mn ∧ i = .int .i64 k ∧ (∀ j, j < k → (d.M j == id) = false) ∧ wr = W) (fun i _ => r.mn - (intOf i).toNat)
  case atStart => exact ⟨0, Nat.zero_le _, rfl, fun j hj => by omega, rfl⟩
  case round =>
    obtain ⟨k, hk, rfl, hq, rfl⟩ := hrel
    have HQ := Lib.hid hq
    clear hq
    have x2 := heap_cell HX.out (j := 2) rfl
    have hmb := HNM.out
    by_cases hk1 : k < r.mn
    · obtain ⟨b, off, hma, hc⟩ := HR.out.m k hk1
      rw [hma] at x2
      obtain ⟨q, hqk⟩ : ∃ q, (d.M k == id) = q := ⟨_, rfl⟩
      have HQK := Lib.hid hqk
      have hk2 : (k : Int) < r.mn := by omega
      clear hma
      cases q
      · go_wp2_with fail
        go_roundw
        case rel => exact ⟨k + 1, by omega, by go_num, fun j hj => by
          by_cases e : j = k
          · subst e; exact HQK.out
          · exact HQ.out j (by omega), trivial⟩
        case measure => simp [intOf]; omega
      · go_wp2_with fail
        go_ret
        exact ⟨ret_int (Pure.firstAt_hit hk1 HQ.out HQK.out).symm, HB.out⟩
    · obtain rfl : k = r.mn := by omega
      go_wp2_with fail
      go_ret
      exact ⟨ret_int (Pure.firstAt_none HQ.out).symm, HB.out⟩
set_option maxHeartbeats 2000000 in
set_option maxRecDepth 100000 in
theorem rShift_any (r : RollX) (d : RollD) (id : Int) (hN : RollN r) (w : World) (hR : RollAt w r d) :
    Calls Tryz.prog 63 #[rollV r, .int .i64 id] w fun e w' => e = .returned (.int .i64 (Pure.shiftAt r.sn d.S id)) ∧ Below w.heap.size w w' := by
  obtain ⟨W, hW⟩ : ∃ W, w.alloc (rollB r) = W := ⟨_, rfl⟩
  have HB : Hid (Below w.heap.size w W) := Lib.hid (by rw [← hW]; exact below_new _ _)
  have HX : Hid (W.heap[w.heap.size]? = some (rollB r)) := Lib.hid (by rw [← hW]; exact heap_top _ _ rfl)
  have HR := Lib.hid (hR.below HB.out)
  have HNM := Lib.hid hN.s
  clear hR
  go_enter Tryz.func63, Tryz.ntmps63
  go_upto_region 1 with fail
  try rw [hW]
  clear hW
  go_wp2_with fail
  go_loopw [5] (fun i wr => ∃ k : Nat, k ≤ r.sn ∧ i = .int .i64 k ∧ (∀ j, j < k → (d.S (j * 2) == id) = false) ∧ wr = W) (fun i _ => r.sn - (intOf i).toNat)
  case atStart => exact ⟨0, Nat.zero_le _, rfl, fun j hj => by omega, rfl⟩
  case round =>
    obtain ⟨k, hk, rfl, hq, rfl⟩ := hrel
    have HQ := Lib.hid hq
    clear hq
    have x3 := heap_cell HX.out (j := 3) rfl
    have hmb := HNM.out
    by_cases hk1 : k < r.sn
    · obtain ⟨b, off, hma, hc⟩ := HR.out.s (k * 2) (by omega)
      rw [hma] at x3
      obtain ⟨q, hqk⟩ : ∃ q, (d.S (k * 2) == id) = q := ⟨_, rfl⟩
      have HQK := Lib.hid hqk
      have hk2 : (k : Int) < r.sn := by omega
      clear hma
      cases q
      · go_wp2_with fail
        go_roundw
        case rel => exact ⟨k + 1, by omega, by go_num, fun j hj => by
          by_cases e : j = k
          · subst e; exact HQK.out
          · exact HQ.out j (by omega), trivial⟩
        case measure => simp [intOf]; omega
      · go_wp2_with fail
        go_ret
        exact ⟨ret_int (Pure.firstAt_hit hk1 HQ.out HQK.out).symm, HB.out⟩
    · obtain rfl : k = r.sn := by omega
      go_wp2_with fail
      go_ret
      exact ⟨ret_int (Pure.firstAt_none HQ.out).symm, HB.out⟩
theorem Pure.thingBad_eq (r : RollX) (d : RollD) (m p : Int) : (!Pure.thingBad r d m p) = (decide (0 ≤ Pure.firstAt (fun j => d.M j == m) r.mn) && decide (0 ≤ Pure.shiftAt r.sn d.S p)) := by
  rw [Pure.firstAt_some]
  unfold Pure.thingBad Pure.has
  by_cases h : Pure.shiftAt r.sn d.S p < 0
  · simp [h]
  · have h2 : 0 ≤ Pure.shiftAt r.sn d.S p := by omega
    simp [h2]
set_option maxHeartbeats 2000000 in
set_option maxRecDepth 100000 in
theorem rThing_any (r : RollX) (d : RollD) (m p : Int) (b : Bool) (hN : RollN r) (w : World) (hR : RollAt w r d) :
    Calls Tryz.prog 46 #[rollV r, thingV m p b] w fun e w' => e = .returned (.bool (!Pure.thingBad r d m p)) ∧ Below w.heap.size w w' := by
  obtain ⟨W, hW⟩ : ∃ W, (w.alloc (rollB r)).alloc (thingB m p b) = W := ⟨_, rfl⟩
  have HB : Hid (Below w.heap.size w W) := Lib.hid (by rw [← hW]; exact (below_new _ _).alloc (by simp) _)
  have HX : Hid (W.heap[w.heap.size]? = some (rollB r)) := Lib.hid (by rw [← hW]; exact heap_up (heap_top _ _ rfl) _)
  have HT : Hid (W.heap[w.heap.size + 1]? = some (thingB m p b)) := Lib.hid (by rw [← hW]; exact heap_top _ _ (by simp))
  have HR := Lib.hid (hR.below HB.out)
  clear hR
  rw [Pure.thingBad_eq]
  obtain ⟨v1, hv1⟩ : ∃ q, Pure.firstAt (fun j => d.M j == m) r.mn = q := ⟨_, rfl⟩
  obtain ⟨v2, hv2⟩ : ∃ q, Pure.shiftAt r.sn d.S p = q := ⟨_, rfl⟩
  rw [hv1, hv2]
  have H1 := Lib.hid hv1
  have H2 := Lib.hid hv2
  clear hv1 hv2
  have x0 := heap_cell HX.out (j := 0) rfl
  have x1 := heap_cell HX.out (j := 1) rfl
  have x2 := heap_cell HX.out (j := 2) rfl
  have x3 := heap_cell HX.out (j := 3) rfl
  have x4 := heap_cell HX.out (j := 4) rfl
  have t0 := heap_cell HT.out (j := 0) rfl
  go_enter Tryz.func46, Tryz.ntmps46
  go_upto_region 1 with fail
  try rw [hW]
  clear hW
  go_wp2_with fail
  refine (rMan_any r d m hN _ HR.out).mono ?_
  rintro e u ⟨rfl, hb⟩
  rw [H1.out]
  have HB2 := Lib.hid (below_thn HB.out hb)
  have HX2 := Lib.hid (heap_lft HX.out hb)
  have HT2 := Lib.hid (heap_lft HT.out hb)
  have HR2 := Lib.hid (HR.out.below hb)
  clear hb x0 x1 x2 x3 x4 t0
  by_cases hv : 0 ≤ v1
  · have x0 := heap_cell HX2.out (j := 0) rfl
    have x1 := heap_cell HX2.out (j := 1) rfl
    have x2 := heap_cell HX2.out (j := 2) rfl
    have x3 := heap_cell HX2.out (j := 3) rfl
    have x4 := heap_cell HX2.out (j := 4) rfl
    have t1 := heap_cell HT2.out (j := 1) rfl
    go_wp2_with fail
    refine (rShift_any r d p hN _ HR2.out).mono ?_
    rintro e u2 ⟨rfl, hb⟩
    rw [H2.out]
    have HB3 := Lib.hid (below_thn HB2.out hb)
    clear hb x0 x1 x2 x3 x4 t1
    go_wp2_with fail
    go_ret
    exact ⟨ret_bool (by simp [hv]), HB3.out⟩
  · go_wp2_with fail
    go_ret
    exact ⟨ret_bool (by rw [decide_eq_false (show ¬ 0 ≤ v1 by omega)]; rfl), HB2.out⟩

end Go.Proofs.YtijfdfplebbaaaaGreat
