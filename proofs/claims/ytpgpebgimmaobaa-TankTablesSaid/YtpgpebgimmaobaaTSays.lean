/-
  The contracts of what a dip says.
-/
import Derived.Test.YtpgpebgimmaobaaTTops
namespace Go.Proofs.Ytpgpebgimmaobaa
open Go.RowKit

set_option maxHeartbeats 4000000 in
set_option maxRecDepth 100000 in
theorem says_any (a : Option Addr) (len cap : Nat) (F : Nat → Int) (lk ft x y : Int) (hok : Pure.OkTank len F lk ft) (x0 : 0 ≤ x) (x1 : x ≤ y) (y1 : y ≤ 8 * ((len : Int) - 1)) (w : World) (h : NumsAt w a len F) :
    Calls Try.prog 28 #[tankV a len cap lk ft, spanV x y] w fun e w' => e = .returned (spanV ((Pure.vol F x + 7) / 8) (Pure.vol F y / 8)) ∧ Below w.heap.size w w' := by
  have HN := Lib.hid h
  have HKK := Lib.hid hok
  obtain ⟨v0, v1⟩ := Pure.vol_span hok x0 (show x ≤ 8 * ((len : Int) - 1) by omega)
  obtain ⟨v2, v3⟩ := Pure.vol_span hok (show 0 ≤ y by omega) y1
  have HD := Lib.hid (show 0 ≤ x ∧ x ≤ 8 * ((len : Int) - 1) ∧ 0 ≤ y ∧ y ≤ 8 * ((len : Int) - 1) by omega)
  obtain ⟨v, hv⟩ : ∃ v, Pure.vol F x = v := ⟨_, rfl⟩
  obtain ⟨u, hu⟩ : ∃ u, Pure.vol F y = u := ⟨_, rfl⟩
  rw [hv] at v0 v1
  rw [hu] at v2 v3
  rw [hv, hu]
  have HV := Lib.hid hv
  have HU := Lib.hid hu
  clear h hok hv hu x0 x1 y1
  go_enter Try.func28, Try.ntmps28
  go_wp2_with fail
  obtain ⟨W1, hW1⟩ : ∃ W, (((w.alloc (tankB a len cap lk ft)).alloc (spanB x y)).alloc (.cells #[.int .i64 0, .int .i64 0] 26)) = W := ⟨_, rfl⟩
  have HB1 : Hid (Below w.heap.size w W1) := Lib.hid (by rw [← hW1]; exact ((((Below.refl _ _).alloc (Nat.le_refl _) _).alloc (by simp <;> omega) _).alloc (by simp <;> omega) _))
  have HX1 : Hid (W1.heap[w.heap.size]? = some (tankB a len cap lk ft) ∧ W1.heap[w.heap.size + 1]? = some (spanB x y) ∧ W1.heap[w.heap.size + 1 + 1]? = some (.cells #[.int .i64 0, .int .i64 0] 26)) := Lib.hid (by rw [← hW1]; exact ⟨heap_up (heap_up (heap_top _ _ rfl) _) _, heap_up (heap_top _ _ (by simp)) _, heap_top _ _ (by simp)⟩)
  have HN1 : Hid (NumsAt W1 a len F) := Lib.hid (HN.out.below HB1.out)
  rw [hW1]
  clear hW1
  have HX2 : Hid (W1.drew.heap[w.heap.size]? = some (tankB a len cap lk ft) ∧ W1.drew.heap[w.heap.size + 1]? = some (spanB x y) ∧ W1.drew.heap[w.heap.size + 1 + 1]? = some (.cells #[.int .i64 0, .int .i64 0] 26)) := Lib.hid HX1.out
  have HN2 : Hid (NumsAt W1.drew a len F) := Lib.hid (HN1.out.below (Below.refl _ _).drew)
  have HB2 : Hid (Below w.heap.size w W1.drew) := Lib.hid HB1.out.drew
  refine wp_region_held (S := fun z => Hid (z.heap[w.heap.size]? = some (tankB a len cap lk ft) ∧ z.heap[w.heap.size + 1]? = some (spanB x y))) (by kernel_rfl) ?_
  refine held_take (i := 0) (d := some 5) (v := tankV a len cap lk ft) rfl rfl (by kernel_rfl) (by kernel_rfl) (by kernel_rfl) (fun _ _ _ h => h) (Or.inl ⟨by rfl, fun z hz => by (have c0 := heap_cell hz.out.1 (j := 0) rfl; have c1 := heap_cell hz.out.1 (j := 1) rfl; have c2 := heap_cell hz.out.1 (j := 2) rfl; go_simp)⟩) (Lib.hid ⟨HX2.out.1, HX2.out.2.1⟩) ?_
  simp only [Act.put, List.setIfInBounds_toArray, List.set_cons_zero, List.set_cons_succ]
  refine held_take (i := 1) (d := some 6) (v := .pointer (some ⟨w.heap.size + 1, 0, none⟩)) rfl rfl (by kernel_rfl) (by kernel_rfl) (by kernel_rfl) (fun _ _ _ h => h) (Or.inl ⟨by rfl, fun z hz => by go_simp⟩) (Lib.hid ⟨HX2.out.1, HX2.out.2.1⟩) ?_
  simp only [Act.put, List.setIfInBounds_toArray, List.set_cons_zero, List.set_cons_succ]
  refine held_take (i := 2) (d := some 7) (v := .int .i64 x) rfl rfl (by kernel_rfl) (by kernel_rfl) (by kernel_rfl) (fun _ _ _ h => h) (Or.inl ⟨by rfl, fun z hz => by (have c0 := heap_cell hz.out.2 (j := 0) rfl; go_simp)⟩) (Lib.hid ⟨HX2.out.1, HX2.out.2.1⟩) ?_
  simp only [Act.put, List.setIfInBounds_toArray, List.set_cons_zero, List.set_cons_succ]
  refine held_take (i := 5) (d := some 10) (v := tankV a len cap lk ft) rfl rfl (by kernel_rfl) (by kernel_rfl) (by kernel_rfl) (fun _ _ _ h => h) (Or.inl ⟨by rfl, fun z hz => by (have c0 := heap_cell hz.out.1 (j := 0) rfl; have c1 := heap_cell hz.out.1 (j := 1) rfl; have c2 := heap_cell hz.out.1 (j := 2) rfl; go_simp)⟩) (Lib.hid ⟨HX2.out.1, HX2.out.2.1⟩) ?_
  simp only [Act.put, List.setIfInBounds_toArray, List.set_cons_zero, List.set_cons_succ]
  refine held_take (i := 6) (d := some 11) (v := .pointer (some ⟨w.heap.size + 1, 1, none⟩)) rfl rfl (by kernel_rfl) (by kernel_rfl) (by kernel_rfl) (fun _ _ _ h => h) (Or.inl ⟨by rfl, fun z hz => by go_simp⟩) (Lib.hid ⟨HX2.out.1, HX2.out.2.1⟩) ?_
  simp only [Act.put, List.setIfInBounds_toArray, List.set_cons_zero, List.set_cons_succ]
  refine held_take (i := 7) (d := some 12) (v := .int .i64 y) rfl rfl (by kernel_rfl) (by kernel_rfl) (by kernel_rfl) (fun _ _ _ h => h) (Or.inl ⟨by rfl, fun z hz => by (have c0 := heap_cell hz.out.2 (j := 1) rfl; go_simp)⟩) (Lib.hid ⟨HX2.out.1, HX2.out.2.1⟩) ?_
  simp only [Act.put, List.setIfInBounds_toArray, List.set_cons_zero, List.set_cons_succ]
  refine wpAnyH_all (rs := [3]) (by kernel_rfl) (by simp) (fun i hi => ?_)
  obtain rfl : i = 3 := by simpa using hi
  clear hi
  refine wpOp_step rfl (fun K hK => ?_)
  go_simp
  with_reducible refine (volume_any a len cap F lk ft x HKK.out HD.out.1 HD.out.2.1 _ HN2.out).mono ?_
  rintro e W3 ⟨rfl, hb⟩
  rw [HV.out]
  have HX3 : Hid (W3.heap[w.heap.size]? = some (tankB a len cap lk ft) ∧ W3.heap[w.heap.size + 1]? = some (spanB x y) ∧ W3.heap[w.heap.size + 1 + 1]? = some (.cells #[.int .i64 0, .int .i64 0] 26)) := Lib.hid ⟨heap_lft HX2.out.1 hb, heap_lft HX2.out.2.1 hb, heap_lft HX2.out.2.2 hb⟩
  have HN3 := Lib.hid (HN2.out.below hb)
  have HB3 := Lib.hid (below_thn HB2.out hb)
  clear hb
  dsimp only
  refine hK _ _ (held_and (Lib.hid ⟨HX3.out.1, HX3.out.2.1⟩) (fun HS3 => ?_))
  clear hK K
  refine wpAnyH_all (rs := [4]) (by kernel_rfl) (by simp) (fun i hi => ?_)
  obtain rfl : i = 4 := by simpa using hi
  clear hi
  refine wpOp_step rfl (fun K hK => ?_)
  go_simp
  with_reducible refine (up_any v v0 (by omega) _).mono ?_
  rintro e w' ⟨rfl, rfl⟩
  dsimp only
  refine hK _ _ (held_and (Lib.hid ⟨HX3.out.1, HX3.out.2.1⟩) (fun HS4 => ?_))
  clear hK K
  refine wpAnyH_all (rs := [8]) (by kernel_rfl) (by simp) (fun i hi => ?_)
  obtain rfl : i = 8 := by simpa using hi
  clear hi
  refine wpOp_step rfl (fun K hK => ?_)
  go_simp
  with_reducible refine (volume_any a len cap F lk ft y HKK.out HD.out.2.2.1 HD.out.2.2.2 _ HN3.out).mono ?_
  rintro e W4 ⟨rfl, hb⟩
  rw [HU.out]
  have HX4 : Hid (W4.heap[w.heap.size]? = some (tankB a len cap lk ft) ∧ W4.heap[w.heap.size + 1]? = some (spanB x y) ∧ W4.heap[w.heap.size + 1 + 1]? = some (.cells #[.int .i64 0, .int .i64 0] 26)) := Lib.hid ⟨heap_lft HX3.out.1 hb, heap_lft HX3.out.2.1 hb, heap_lft HX3.out.2.2 hb⟩
  have HN4 := Lib.hid (HN3.out.below hb)
  have HB4 := Lib.hid (below_thn HB3.out hb)
  clear hb
  dsimp only
  refine hK _ _ (held_and (Lib.hid ⟨HX4.out.1, HX4.out.2.1⟩) (fun HS8 => ?_))
  clear hK K
  refine wpAnyH_all (rs := [9]) (by kernel_rfl) (by simp) (fun i hi => ?_)
  obtain rfl : i = 9 := by simpa using hi
  clear hi
  refine wpOp_step rfl (fun K hK => ?_)
  go_simp
  with_reducible refine (down_any u v2 (by omega) _).mono ?_
  rintro e w' ⟨rfl, rfl⟩
  dsimp only
  refine hK _ _ (held_and (Lib.hid ⟨HX4.out.1, HX4.out.2.1⟩) (fun HS9 => ?_))
  clear hK K
  refine held_take (i := 10) (d := some 15) (v := spanV ((v + 7) / 8) (u / 8)) rfl rfl (by kernel_rfl) (by kernel_rfl) (by kernel_rfl) (fun _ _ _ h => h) (Or.inl ⟨by rfl, fun z hz => by go_simp⟩) HS9 ?_
  simp only [Act.put, List.setIfInBounds_toArray, List.set_cons_zero, List.set_cons_succ]
  refine wpAnyH_all (rs := [11]) (by kernel_rfl) (by simp) (fun i hi => ?_)
  obtain rfl : i = 11 := by simpa using hi
  clear hi
  refine wpOp_step rfl (fun K hK => ?_)
  have t0 := heap_cell HX4.out.1 (j := 0) rfl
  have t1 := heap_cell HX4.out.1 (j := 1) rfl
  have t2 := heap_cell HX4.out.1 (j := 2) rfl
  have s0 := heap_cell HX4.out.2.1 (j := 0) rfl
  have s1 := heap_cell HX4.out.2.1 (j := 1) rfl
  have r0 := heap_cell HX4.out.2.2 (j := 0) rfl
  have fr0 := heap_frozen HX4.out.2.2 0
  have r1 := heap_cell HX4.out.2.2 (j := 1) rfl
  have fr1 := heap_frozen HX4.out.2.2 1
  go_simp
  refine hK _ _ (held_and (Lib.hid ⟨(Below.heap_setCell _ _ _ _ (by first | (simp; done) | (simp; omega))).trans ((Below.heap_setCell _ _ _ _ (by first | (simp; done) | (simp; omega))).trans HX4.out.1), (Below.heap_setCell _ _ _ _ (by first | (simp; done) | (simp; omega))).trans ((Below.heap_setCell _ _ _ _ (by first | (simp; done) | (simp; omega))).trans HX4.out.2.1)⟩) (fun HS11 => ?_))
  clear hK K
  refine wpAnyH_done (by kernel_rfl) ?_ _
  go_wp2_with fail
  refine bodyPost_ret (v := spanV ((v + 7) / 8) (u / 8)) (by first | (simp [results, Try.results28, go_sem, r0, r1]; done) | (simp [results, Try.results28, go_sem, Pure.err_false, r0, r1]; done)) rfl ⟨rfl, ?_⟩
  exact ((HB4.out.setCell (p := ⟨w.heap.size + 1 + 1, 0, none⟩) (by first | (simp; done) | (simp; omega)) _).setCell (p := ⟨w.heap.size + 1 + 1, 1, none⟩) (by first | (simp; done) | (simp; omega)) _)

set_option maxHeartbeats 4000000 in
set_option maxRecDepth 100000 in
theorem dipped_any (a : Option Addr) (len cap : Nat) (F : Nat → Int) (lk ft x y : Int) (hok : Pure.OkTank len F lk ft) (x0 : 0 ≤ x) (x1 : x ≤ y) (y1 : y ≤ 8 * ((len : Int) - 1)) (w : World) (h : NumsAt w a len F) :
    Calls Try.prog 31 #[tankV a len cap lk ft, spanV x y] w fun e w' => e = .returned (spanV ((Pure.vol F x + 7) / 8) (Pure.vol F y / 8)) ∧ Below w.heap.size w w' := by
  have HN := Lib.hid h
  have HKK := Lib.hid hok
  obtain ⟨v0, v1⟩ := Pure.vol_span hok x0 (show x ≤ 8 * ((len : Int) - 1) by omega)
  obtain ⟨v2, v3⟩ := Pure.vol_span hok (show 0 ≤ y by omega) y1
  have HD := Lib.hid (show 0 ≤ x ∧ x ≤ 8 * ((len : Int) - 1) ∧ 0 ≤ y ∧ y ≤ 8 * ((len : Int) - 1) by omega)
  obtain ⟨v, hv⟩ : ∃ v, Pure.vol F x = v := ⟨_, rfl⟩
  obtain ⟨u, hu⟩ : ∃ u, Pure.vol F y = u := ⟨_, rfl⟩
  rw [hv] at v0 v1
  rw [hu] at v2 v3
  rw [hv, hu]
  have HV := Lib.hid hv
  have HU := Lib.hid hu
  have HW1 : Hid (IntKind.i64.wrap (v + 7) = v + 7) := Lib.hid (IntWalk.i64_in _ (by omega))
  have HW2 : Hid (IntKind.i64.wrap ((v + 7).tdiv 8) = (v + 7) / 8) := Lib.hid (by rw [Int.tdiv_eq_ediv_of_nonneg (by omega)]; exact IntWalk.i64_in _ (by omega))
  have HW3 : Hid (IntKind.i64.wrap (u.tdiv 8) = u / 8) := Lib.hid (by rw [Int.tdiv_eq_ediv_of_nonneg (by omega)]; exact IntWalk.i64_in _ (by omega))
  clear h hok hv hu x0 x1 y1
  go_enter Try.func31, Try.ntmps31
  go_wp2_with fail
  obtain ⟨W1, hW1⟩ : ∃ W, (((w.alloc (tankB a len cap lk ft)).alloc (spanB x y)).alloc (.cells #[.int .i64 0, .int .i64 0] 26)) = W := ⟨_, rfl⟩
  have HB1 : Hid (Below w.heap.size w W1) := Lib.hid (by rw [← hW1]; exact ((((Below.refl _ _).alloc (Nat.le_refl _) _).alloc (by simp <;> omega) _).alloc (by simp <;> omega) _))
  have HX1 : Hid (W1.heap[w.heap.size]? = some (tankB a len cap lk ft) ∧ W1.heap[w.heap.size + 1]? = some (spanB x y) ∧ W1.heap[w.heap.size + 1 + 1]? = some (.cells #[.int .i64 0, .int .i64 0] 26)) := Lib.hid (by rw [← hW1]; exact ⟨heap_up (heap_up (heap_top _ _ rfl) _) _, heap_up (heap_top _ _ (by simp)) _, heap_top _ _ (by simp)⟩)
  have HN1 : Hid (NumsAt W1 a len F) := Lib.hid (HN.out.below HB1.out)
  rw [hW1]
  clear hW1
  have HX2 : Hid (W1.drew.heap[w.heap.size]? = some (tankB a len cap lk ft) ∧ W1.drew.heap[w.heap.size + 1]? = some (spanB x y) ∧ W1.drew.heap[w.heap.size + 1 + 1]? = some (.cells #[.int .i64 0, .int .i64 0] 26)) := Lib.hid HX1.out
  have HN2 : Hid (NumsAt W1.drew a len F) := Lib.hid (HN1.out.below (Below.refl _ _).drew)
  have HB2 : Hid (Below w.heap.size w W1.drew) := Lib.hid HB1.out.drew
  refine wp_region_held (S := fun z => Hid (z.heap[w.heap.size]? = some (tankB a len cap lk ft) ∧ z.heap[w.heap.size + 1]? = some (spanB x y))) (by kernel_rfl) ?_
  refine held_take (i := 0) (d := some 5) (v := tankV a len cap lk ft) rfl rfl (by kernel_rfl) (by kernel_rfl) (by kernel_rfl) (fun _ _ _ h => h) (Or.inl ⟨by rfl, fun z hz => by (have c0 := heap_cell hz.out.1 (j := 0) rfl; have c1 := heap_cell hz.out.1 (j := 1) rfl; have c2 := heap_cell hz.out.1 (j := 2) rfl; go_simp)⟩) (Lib.hid ⟨HX2.out.1, HX2.out.2.1⟩) ?_
  simp only [Act.put, List.setIfInBounds_toArray, List.set_cons_zero, List.set_cons_succ]
  refine held_take (i := 1) (d := some 6) (v := .pointer (some ⟨w.heap.size + 1, 0, none⟩)) rfl rfl (by kernel_rfl) (by kernel_rfl) (by kernel_rfl) (fun _ _ _ h => h) (Or.inl ⟨by rfl, fun z hz => by go_simp⟩) (Lib.hid ⟨HX2.out.1, HX2.out.2.1⟩) ?_
  simp only [Act.put, List.setIfInBounds_toArray, List.set_cons_zero, List.set_cons_succ]
  refine held_take (i := 2) (d := some 7) (v := .int .i64 x) rfl rfl (by kernel_rfl) (by kernel_rfl) (by kernel_rfl) (fun _ _ _ h => h) (Or.inl ⟨by rfl, fun z hz => by (have c0 := heap_cell hz.out.2 (j := 0) rfl; go_simp)⟩) (Lib.hid ⟨HX2.out.1, HX2.out.2.1⟩) ?_
  simp only [Act.put, List.setIfInBounds_toArray, List.set_cons_zero, List.set_cons_succ]
  refine held_take (i := 6) (d := some 11) (v := tankV a len cap lk ft) rfl rfl (by kernel_rfl) (by kernel_rfl) (by kernel_rfl) (fun _ _ _ h => h) (Or.inl ⟨by rfl, fun z hz => by (have c0 := heap_cell hz.out.1 (j := 0) rfl; have c1 := heap_cell hz.out.1 (j := 1) rfl; have c2 := heap_cell hz.out.1 (j := 2) rfl; go_simp)⟩) (Lib.hid ⟨HX2.out.1, HX2.out.2.1⟩) ?_
  simp only [Act.put, List.setIfInBounds_toArray, List.set_cons_zero, List.set_cons_succ]
  refine held_take (i := 7) (d := some 12) (v := .pointer (some ⟨w.heap.size + 1, 1, none⟩)) rfl rfl (by kernel_rfl) (by kernel_rfl) (by kernel_rfl) (fun _ _ _ h => h) (Or.inl ⟨by rfl, fun z hz => by go_simp⟩) (Lib.hid ⟨HX2.out.1, HX2.out.2.1⟩) ?_
  simp only [Act.put, List.setIfInBounds_toArray, List.set_cons_zero, List.set_cons_succ]
  refine held_take (i := 8) (d := some 13) (v := .int .i64 y) rfl rfl (by kernel_rfl) (by kernel_rfl) (by kernel_rfl) (fun _ _ _ h => h) (Or.inl ⟨by rfl, fun z hz => by (have c0 := heap_cell hz.out.2 (j := 1) rfl; go_simp)⟩) (Lib.hid ⟨HX2.out.1, HX2.out.2.1⟩) ?_
  simp only [Act.put, List.setIfInBounds_toArray, List.set_cons_zero, List.set_cons_succ]
  refine wpAnyH_all (rs := [3]) (by kernel_rfl) (by simp) (fun i hi => ?_)
  obtain rfl : i = 3 := by simpa using hi
  clear hi
  refine wpOp_step rfl (fun K hK => ?_)
  go_simp
  with_reducible refine (rEight_any a len cap F lk ft x HKK.out HD.out.1 HD.out.2.1 _ HN2.out).mono ?_
  rintro e W3 ⟨rfl, hb⟩
  rw [HV.out]
  have HX3 : Hid (W3.heap[w.heap.size]? = some (tankB a len cap lk ft) ∧ W3.heap[w.heap.size + 1]? = some (spanB x y) ∧ W3.heap[w.heap.size + 1 + 1]? = some (.cells #[.int .i64 0, .int .i64 0] 26)) := Lib.hid ⟨heap_lft HX2.out.1 hb, heap_lft HX2.out.2.1 hb, heap_lft HX2.out.2.2 hb⟩
  have HN3 := Lib.hid (HN2.out.below hb)
  have HB3 := Lib.hid (below_thn HB2.out hb)
  clear hb
  dsimp only
  refine hK _ _ (held_and (Lib.hid ⟨HX3.out.1, HX3.out.2.1⟩) (fun HS3 => ?_))
  clear hK K
  refine held_take (i := 4) (d := some 9) (v := .int .i64 (v + 7)) rfl rfl (by kernel_rfl) (by kernel_rfl) (by kernel_rfl) (fun _ _ _ h => h) (Or.inl ⟨by rfl, fun z hz => by (go_simp; exact HW1.out)⟩) HS3 ?_
  simp only [Act.put, List.setIfInBounds_toArray, List.set_cons_zero, List.set_cons_succ]
  refine held_take (i := 5) (d := some 10) (v := .int .i64 ((v + 7) / 8)) rfl rfl (by kernel_rfl) (by kernel_rfl) (by kernel_rfl) (fun _ _ _ h => h) (Or.inl ⟨by rfl, fun z hz => by (go_simp; exact HW2.out)⟩) HS3 ?_
  simp only [Act.put, List.setIfInBounds_toArray, List.set_cons_zero, List.set_cons_succ]
  refine wpAnyH_all (rs := [9]) (by kernel_rfl) (by simp) (fun i hi => ?_)
  obtain rfl : i = 9 := by simpa using hi
  clear hi
  refine wpOp_step rfl (fun K hK => ?_)
  go_simp
  with_reducible refine (rEight_any a len cap F lk ft y HKK.out HD.out.2.2.1 HD.out.2.2.2 _ HN3.out).mono ?_
  rintro e W4 ⟨rfl, hb⟩
  rw [HU.out]
  have HX4 : Hid (W4.heap[w.heap.size]? = some (tankB a len cap lk ft) ∧ W4.heap[w.heap.size + 1]? = some (spanB x y) ∧ W4.heap[w.heap.size + 1 + 1]? = some (.cells #[.int .i64 0, .int .i64 0] 26)) := Lib.hid ⟨heap_lft HX3.out.1 hb, heap_lft HX3.out.2.1 hb, heap_lft HX3.out.2.2 hb⟩
  have HN4 := Lib.hid (HN3.out.below hb)
  have HB4 := Lib.hid (below_thn HB3.out hb)
  clear hb
  dsimp only
  refine hK _ _ (held_and (Lib.hid ⟨HX4.out.1, HX4.out.2.1⟩) (fun HS9 => ?_))
  clear hK K
  refine held_take (i := 10) (d := some 15) (v := .int .i64 (u / 8)) rfl rfl (by kernel_rfl) (by kernel_rfl) (by kernel_rfl) (fun _ _ _ h => h) (Or.inl ⟨by rfl, fun z hz => by (go_simp; exact HW3.out)⟩) HS9 ?_
  simp only [Act.put, List.setIfInBounds_toArray, List.set_cons_zero, List.set_cons_succ]
  refine held_take (i := 11) (d := some 16) (v := spanV ((v + 7) / 8) (u / 8)) rfl rfl (by kernel_rfl) (by kernel_rfl) (by kernel_rfl) (fun _ _ _ h => h) (Or.inl ⟨by rfl, fun z hz => by go_simp⟩) HS9 ?_
  simp only [Act.put, List.setIfInBounds_toArray, List.set_cons_zero, List.set_cons_succ]
  refine wpAnyH_all (rs := [12]) (by kernel_rfl) (by simp) (fun i hi => ?_)
  obtain rfl : i = 12 := by simpa using hi
  clear hi
  refine wpOp_step rfl (fun K hK => ?_)
  have t0 := heap_cell HX4.out.1 (j := 0) rfl
  have t1 := heap_cell HX4.out.1 (j := 1) rfl
  have t2 := heap_cell HX4.out.1 (j := 2) rfl
  have s0 := heap_cell HX4.out.2.1 (j := 0) rfl
  have s1 := heap_cell HX4.out.2.1 (j := 1) rfl
  have r0 := heap_cell HX4.out.2.2 (j := 0) rfl
  have fr0 := heap_frozen HX4.out.2.2 0
  have r1 := heap_cell HX4.out.2.2 (j := 1) rfl
  have fr1 := heap_frozen HX4.out.2.2 1
  go_simp
  refine hK _ _ (held_and (Lib.hid ⟨(Below.heap_setCell _ _ _ _ (by first | (simp; done) | (simp; omega))).trans ((Below.heap_setCell _ _ _ _ (by first | (simp; done) | (simp; omega))).trans HX4.out.1), (Below.heap_setCell _ _ _ _ (by first | (simp; done) | (simp; omega))).trans ((Below.heap_setCell _ _ _ _ (by first | (simp; done) | (simp; omega))).trans HX4.out.2.1)⟩) (fun HS12 => ?_))
  clear hK K
  refine wpAnyH_done (by kernel_rfl) ?_ _
  go_wp2_with fail
  refine bodyPost_ret (v := spanV ((v + 7) / 8) (u / 8)) (by first | (simp [results, Try.results31, go_sem, r0, r1]; done) | (simp [results, Try.results31, go_sem, Pure.err_false, r0, r1]; done)) rfl ⟨rfl, ?_⟩
  exact ((HB4.out.setCell (p := ⟨w.heap.size + 1 + 1, 0, none⟩) (by first | (simp; done) | (simp; omega)) _).setCell (p := ⟨w.heap.size + 1 + 1, 1, none⟩) (by first | (simp; done) | (simp; omega)) _)

end Go.Proofs.Ytpgpebgimmaobaa
