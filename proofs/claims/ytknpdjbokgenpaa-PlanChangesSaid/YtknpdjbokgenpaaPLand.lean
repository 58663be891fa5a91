/-
  The contract of the program's Land.
-/
import Derived.Test.YtknpdjbokgenpaaPSort
namespace Go.Proofs.Ytknpdjbokgenpaa
open Go.RowKit

set_option maxHeartbeats 8000000 in
set_option maxRecDepth 100000 in
theorem land_any (p : PlanX) (T A S : Nat → Int) (d l : Int) (hn : p.tn ≤ 40) (ha : p.an ≤ 38) (hs : p.sn ≤ 38) (hz : NilPlan p) (w : World) (h : PlanAt w p T A S) :
    Calls Try.prog 10 #[planV p, arrV d l] w (LandOut p T A S d l w) := by
  have HZ := Lib.hid hz
  clear hz
  obtain ⟨W, hW⟩ : ∃ W, ((w.alloc (planB p)).alloc (arrB d l)).alloc (planB noPlan) = W := ⟨_, rfl⟩
  have HB : Hid (Below w.heap.size w W) := Lib.hid (by rw [← hW]; exact ((below_new _ _).alloc (by simp) _).alloc (by simp; omega) _)
  have HX : Hid (W.heap[w.heap.size]? = some (planB p)) := Lib.hid (by rw [← hW]; exact heap_up (heap_up (heap_top _ _ rfl) _) _)
  have HI : Hid (W.heap[w.heap.size + 1]? = some (arrB d l)) := Lib.hid (by rw [← hW]; exact heap_up (heap_top _ _ (by simp)) _)
  have HY : Hid (W.heap[w.heap.size + 1 + 1]? = some (planB noPlan)) := Lib.hid (by rw [← hW]; exact heap_top _ _ (by simp))
  have HSZ : Hid (W.heap.size = w.heap.size + 3) := Lib.hid (by rw [← hW]; simp)
  have HP : Hid (PlanAt W p T A S) := Lib.hid (h.below HB.out)
  clear h
  obtain ⟨q, hq⟩ : ∃ q, (if (Pure.err (Pure.plan p T A S) 40) = 0 then (Pure.err (decide ((p.an : Int) < 6)) 9) else (Pure.err (Pure.plan p T A S) 40)) = q := ⟨_, rfl⟩
  have HQ := Lib.hid hq
  clear hq
  go_enter Try.func10, Try.ntmps10
  go_upto_region 1 with fail
  try rw [hW]
  clear hW
  go_cut [6] from 8 to 16 (fun s wx => s = .int .i64 q ∧ Below W.heap.size W wx)
  case first =>
    rename_i J K' hJ hK'
    generalize hA : (Act.mk _ _ : Act) = a0
    have m2 : At a0 2 (.pointer (some ⟨w.heap.size, 0, none⟩)) := by rw [← hA]; rfl
    have hsz : 16 < a0.tmps.size := by rw [← hA]; exact of_decide_eq_true (by kernel_rfl)
    have hfin : ∀ a' w', Kept (6 :: List.range' 8 9) a0 a' → At a' 6 (.int .i64 q) → (Below W.heap.size W w') → K' a' w' := by
      intro a' w' hI hv6 hL
      refine hK' _ _ (Met.intro (hJ _ _ ⟨a'.tmps.getD 6 undef, a'.tmps.getD 8 undef, a'.tmps.getD 9 undef, a'.tmps.getD 10 undef, a'.tmps.getD 11 undef, a'.tmps.getD 12 undef, a'.tmps.getD 13 undef, a'.tmps.getD 14 undef, a'.tmps.getD 15 undef, a'.tmps.getD 16 undef, ⟨by have g := hv6; unfold At at g; rw [Array.getD_eq_getD_getElem?, g]; rfl, hL⟩, hI.eq.trans ?_⟩))
      rw [← hA]
      kernel_rfl
    have hI : Kept (6 :: List.range' 8 9) a0 a0 := Kept.refl _ _
    clear hA hJ hK' J
    refine with_pan (fun d _ _ _ _ h => by cases d <;> exact h) ?_
    intro hpan
    refine wp_region_rest (fun z => z.heap[w.heap.size]? = some (planB p)) (by kernel_rfl) ?_
    obtain ⟨wz, hwz⟩ : ∃ x, W.drew = x := ⟨_, rfl⟩
    change Rest _ _ _ _ _ _ _ (W.drew)
    rw [hwz]
    have hq : Below W.heap.size W wz := by rw [← hwz]; exact (Below.refl _ _).drew
    clear hwz
    have hS := heap_lft HX.out hq
    refine rest_take (k := 0) (d := 8) (v := planV p) hI rfl rfl (by kernel_rfl) (Nat.lt_of_le_of_lt (by decide) hsz) (by kernel_rfl) hpan (by kernel_rfl) hS (wanted_free rfl) (fun z hz => by have n2 := hI.at m2 (by kernel_rfl); have e2 := n2; have f2 := n2.eval; unfold At at e2; have k0 := heap_cell hz (j := 0) rfl; have k1 := heap_cell hz (j := 1) rfl; have k2 := heap_cell hz (j := 2) rfl; have k3 := heap_cell hz (j := 3) rfl; have k4 := heap_cell hz (j := 4) rfl; have k5 := heap_cell hz (j := 5) rfl; have k6 := heap_cell hz (j := 6) rfl; simp [go_sem, e2, k0, k1, k2, k3, k4, k5, k6]) (fun a' hI' n8' hk => ?_)
    have n8 := n8'
    replace hI := hI'
    clear hk hI' n8'
    obtain ⟨act9, rfl⟩ : ∃ x, x = a' := ⟨_, rfl⟩
    refine rest_take (k := 2) (d := 10) (v := .pointer (some ⟨w.heap.size, 4, none⟩)) hI rfl rfl (by kernel_rfl) (Nat.lt_of_le_of_lt (by decide) hsz) (by kernel_rfl) hpan (by kernel_rfl) hS (wanted_free rfl) (fun z hz => by have n2 := hI.at m2 (by kernel_rfl); have e2 := n2; have f2 := n2.eval; unfold At at e2; simp [go_sem, e2]) (fun a' hI' n10' hk => ?_)
    replace n8 := hk _ _ n8 rfl
    have n10 := n10'
    replace hI := hI'
    clear hk hI' n10'
    obtain ⟨act9, rfl⟩ : ∃ x, x = a' := ⟨_, rfl⟩
    refine rest_take (k := 3) (d := 11) (v := .slice p.aa p.an p.ac) hI rfl rfl (by kernel_rfl) (Nat.lt_of_le_of_lt (by decide) hsz) (by kernel_rfl) hpan (by kernel_rfl) hS (wanted_free rfl) (fun z hz => by have e10 := n10; have f10 := n10.eval; unfold At at e10; have k4 := heap_cell hz (j := 4) rfl; simp [go_sem, e10, k4]) (fun a' hI' n11' hk => ?_)
    replace n8 := hk _ _ n8 rfl
    replace n10 := hk _ _ n10 rfl
    have n11 := n11'
    replace hI := hI'
    clear hk hI' n11'
    obtain ⟨act9, rfl⟩ : ∃ x, x = a' := ⟨_, rfl⟩
    clear n10
    refine rest_take (k := 4) (d := 12) (v := .int .i64 p.an) hI rfl rfl (by kernel_rfl) (Nat.lt_of_le_of_lt (by decide) hsz) (by kernel_rfl) hpan (by kernel_rfl) hS (wanted_free rfl) (fun z hz => by have e11 := n11; have f11 := n11.eval; unfold At at e11; simp [go_sem, e11]) (fun a' hI' n12' hk => ?_)
    replace n8 := hk _ _ n8 rfl
    replace n11 := hk _ _ n11 rfl
    have n12 := n12'
    replace hI := hI'
    clear hk hI' n12'
    obtain ⟨act9, rfl⟩ : ∃ x, x = a' := ⟨_, rfl⟩
    clear n11
    refine rest_take (k := 5) (d := 13) (v := .bool (decide ((p.an : Int) < 6))) hI rfl rfl (by kernel_rfl) (Nat.lt_of_le_of_lt (by decide) hsz) (by kernel_rfl) hpan (by kernel_rfl) hS (wanted_free rfl) (fun z hz => by have e12 := n12; have f12 := n12.eval; unfold At at e12; simp [go_sem, e12]) (fun a' hI' n13' hk => ?_)
    replace n8 := hk _ _ n8 rfl
    replace n12 := hk _ _ n12 rfl
    have n13 := n13'
    replace hI := hI'
    clear hk hI' n13'
    obtain ⟨act9, rfl⟩ : ∃ x, x = a' := ⟨_, rfl⟩
    clear n12
    refine rest_only (k := 1) (by kernel_rfl) (op_call (k := 1) (d := 9) (R := fun v w' => v = .int .i64 (Pure.err (Pure.plan p T A S) 40) ∧ Below wz.heap.size wz w') hI rfl rfl (by kernel_rfl) (Nat.lt_of_le_of_lt (by decide) hsz) (wanted_free rfl) ((check_any p T A S hn (by omega) (by omega) _ (HP.out.below hq)).mono fun e w' g => ⟨_, g.1, rfl, g.2⟩) (by have e8 := n8; have f8 := n8.eval; unfold At at e8; simp [go_sem, e8]) ?_)
    intro v w' a' hR hI' n9' hk
    obtain ⟨rfl, hb⟩ := hR
    refine ⟨heap_lft hS hb, ?_⟩
    replace n8 := hk _ _ n8 rfl
    replace n13 := hk _ _ n13 rfl
    have n9 := n9'
    replace hI := hI'
    clear hk hI' n9'
    obtain ⟨act9, rfl⟩ : ∃ x, x = a' := ⟨_, rfl⟩
    replace hS := heap_lft hS hb
    replace hq := below_thn hq hb
    clear hb
    obtain ⟨u1, rfl⟩ : ∃ x, x = w' := ⟨_, rfl⟩
    clear n8
    refine rest_only (k := 6) (by kernel_rfl) (op_call (k := 6) (d := 14) (R := fun v w' => v = .int .i64 (Pure.err (decide ((p.an : Int) < 6)) 9) ∧ u1 = w') hI rfl rfl (by kernel_rfl) (Nat.lt_of_le_of_lt (by decide) hsz) (wanted_free rfl) ((unless_any _ _ _).mono fun e w' g => ⟨_, g.1, rfl, g.2⟩) (by have e13 := n13; have f13 := n13.eval; unfold At at e13; simp [go_sem, e13]) ?_)
    intro v w' a' hR hI' n14' hk
    obtain ⟨rfl, rfl⟩ := hR
    refine ⟨hS, ?_⟩
    replace n13 := hk _ _ n13 rfl
    replace n9 := hk _ _ n9 rfl
    have n14 := n14'
    replace hI := hI'
    clear hk hI' n14'
    obtain ⟨act9, rfl⟩ : ∃ x, x = a' := ⟨_, rfl⟩
    clear n13
    have hn1 := below_new u1 (.cells #[.int .i64 (Pure.err (Pure.plan p T A S) 40), .int .i64 (Pure.err (decide ((p.an : Int) < 6)) 9)] 33)
    have hq1 := below_thn hq hn1
    have hs1 := heap_lft hS hn1
    have hc0 := cells_top u1 #[.int .i64 (Pure.err (Pure.plan p T A S) 40), .int .i64 (Pure.err (decide ((p.an : Int) < 6)) 9)] 33 rfl 0
    have hc1 := cells_top u1 #[.int .i64 (Pure.err (Pure.plan p T A S) 40), .int .i64 (Pure.err (decide ((p.an : Int) < 6)) 9)] 33 rfl 1
    obtain ⟨u2, hu2⟩ : ∃ x, u1.alloc (.cells #[.int .i64 (Pure.err (Pure.plan p T A S) 40), .int .i64 (Pure.err (decide ((p.an : Int) < 6)) 9)] 33) = x := ⟨_, rfl⟩
    rw [hu2] at hn1 hq1 hs1 hc0 hc1
    refine rest_only (k := 7) (by kernel_rfl) (op_value (k := 7) (d := 15) (v := .slice (some ⟨u1.heap.size, 0, none⟩) 2 2) hI rfl rfl (by kernel_rfl) (Nat.lt_of_le_of_lt (by decide) hsz) (wanted_free rfl) (by have e9 := n9; have f9 := n9.eval; unfold At at e9; have e14 := n14; have f14 := n14.eval; unfold At at e14; simp [go_sem, e9, e14]; try rfl) (fun a' hI' n15' hk => ⟨by rw [hu2]; exact hs1, ?_⟩))
    replace n9 := hk _ _ n9 rfl
    replace n14 := hk _ _ n14 rfl
    have n15 := n15'
    replace hI := hI'
    clear hk hI' n15'
    obtain ⟨act9, rfl⟩ : ∃ x, x = a' := ⟨_, rfl⟩
    rw [hu2]
    clear hu2 hS hq hn1
    replace hS := hs1
    replace hq := hq1
    clear hs1 hq1
    clear n9
    clear n14
    refine rest_only (k := 8) (by kernel_rfl) (op_call (k := 8) (d := 16) (R := fun v w' => v = .int .i64 q ∧ u2 = w') hI rfl rfl (by kernel_rfl) (Nat.lt_of_le_of_lt (by decide) hsz) (wanted_free rfl) ((firstError2 _ _ _ 2 _ hc0 hc1).mono fun e w' g => ⟨_, g.1, congrArg (Value.int .i64) HQ.out, g.2⟩) (by have e15 := n15; have f15 := n15.eval; unfold At at e15; simp [go_sem, e15]) ?_)
    intro v w' a' hR hI' n16' hk
    obtain ⟨rfl, rfl⟩ := hR
    refine ⟨hS, ?_⟩
    replace n15 := hk _ _ n15 rfl
    have n16 := n16'
    replace hI := hI'
    clear hk hI' n16'
    obtain ⟨act9, rfl⟩ : ∃ x, x = a' := ⟨_, rfl⟩
    refine rest_take (k := 9) (d := 6) (v := .int .i64 q) hI rfl rfl (by kernel_rfl) (Nat.lt_of_le_of_lt (by decide) hsz) (by kernel_rfl) hpan (by kernel_rfl) hS (wanted_free rfl) (fun z hz => by have e16 := n16; have f16 := n16.eval; unfold At at e16; simp [go_sem, e16]) (fun a' hI' n6' hk => ?_)
    replace n15 := hk _ _ n15 rfl
    replace n16 := hk _ _ n16 rfl
    have n6 := n6'
    replace hI := hI'
    clear hk hI' n6'
    obtain ⟨act9, rfl⟩ : ∃ x, x = a' := ⟨_, rfl⟩
    refine rest_done (by kernel_rfl) ?_
    exact hfin _ _ hI n6 hq
  case rest =>
    obtain ⟨W1, rfl⟩ : ∃ x, x = wc := ⟨_, rfl⟩
    obtain ⟨rfl, hb⟩ := hcut
    have HX1 := Lib.hid (heap_lft HX.out hb)
    have HI1 := Lib.hid (heap_lft HI.out hb)
    have HY1 := Lib.hid (heap_lft HY.out hb)
    have HB1 := Lib.hid (below_thn HB.out hb)
    have HP1 := Lib.hid (HP.out.below hb)
    have HS1 : Hid (w.heap.size + 3 ≤ W1.heap.size) := Lib.hid (by have := hb.size; have := HSZ.out; omega)
    clear hb
    by_cases hw : Pure.plan p T A S = true
    · by_cases h4 : p.an < 6
      · have hq0 : q = 0 := by rw [← HQ.out, hw]; simp [Pure.err, show (p.an : Int) < 6 by omega]
        subst hq0
        have HWT := Lib.hid hw
        have H4 := Lib.hid h4
        clear hw
        have x0 := heap_cell HX1.out (j := 0) rfl
        have x1 := heap_cell HX1.out (j := 1) rfl
        have x2 := heap_cell HX1.out (j := 2) rfl
        have x3 := heap_cell HX1.out (j := 3) rfl
        have x4 := heap_cell HX1.out (j := 4) rfl
        have x5 := heap_cell HX1.out (j := 5) rfl
        have x6 := heap_cell HX1.out (j := 6) rfl
        go_upto_region 4 with fail
        go_wp2_with fail
        refine (copied_any p T A S hn (by omega) (by omega) HZ.out _ HP1.out).mono ?_
        rintro e2 W2 ⟨a1, c1, a2, c2, a3, c3, rfl, ho, hb, hap⟩
        have HAP := Lib.hid hap
        have HI2 := Lib.hid (heap_lft HI1.out hb)
        have HY2 := Lib.hid (heap_lft HY1.out hb)
        have HB2 := Lib.hid (below_thn HB1.out hb)
        have HO2 := Lib.hid ho
        have HS2 : Hid (W1.heap.size ≤ W2.heap.size) := Lib.hid hb.size
        clear ho hb hap x0 x1 x2 x3 x4 x5 x6
        go_upto_region 5 with fail
        obtain ⟨V, hV⟩ : ∃ V, W2.alloc (planB (p.moved a1 c1 a2 c2 a3 c3)) = V := ⟨_, rfl⟩
        have hbv : Below W2.heap.size W2 V := by rw [← hV]; exact below_new _ _
        have HQV : Hid (V.heap[W2.heap.size]? = some (planB (p.moved a1 c1 a2 c2 a3 c3))) := Lib.hid (by rw [← hV]; exact heap_top _ _ rfl)
        have HSV : Hid (V.heap.size = W2.heap.size + 1) := Lib.hid (by rw [← hV]; simp)
        have HIV := Lib.hid (heap_lft HI2.out hbv)
        have HYV := Lib.hid (heap_lft HY2.out hbv)
        have HBV := Lib.hid (below_thn HB2.out hbv)
        have HOV := Lib.hid (HO2.out.below hbv)
        try rw [hV]
        clear hV hbv
        obtain ⟨Y, hY⟩ : ∃ Y, V.alloc (arrB d l) = Y := ⟨_, rfl⟩
        have hby : Below V.heap.size V Y := by rw [← hY]; exact below_new _ _
        have HV : Hid (Y.heap[V.heap.size]? = some (arrB d l)) := Lib.hid (by rw [← hY]; exact heap_top _ _ rfl)
        have HQY := Lib.hid (heap_lft HQV.out hby)
        have HYY := Lib.hid (heap_lft HYV.out hby)
        have HBY := Lib.hid (below_thn HBV.out hby)
        have HOY := Lib.hid (HOV.out.below hby)
        have HSY : Hid (V.heap.size ≤ Y.heap.size) := Lib.hid hby.size
        clear hby
        obtain ⟨i0, hi, hz0, hz1, hz2⟩ := infoArr
        have hwid : W1.heap.size ≤ Y.heap.size := by have := HSY.out; have := HSV.out; have := HS2.out; omega
        have hoa : OwnNums Y W1.heap.size 30 2 a2 p.an c2 A := HOY.out.a
        obtain ⟨a4, c4, Z, hr, ho4, hal, hbe, hfr⟩ := app_own Y W1.heap.size 30 23 23 2 16 i0 _ Try.underlying23 hi hz0 hz1 hz2 rfl (by decide) (by decide) hoa (some ⟨V.heap.size, 0, none⟩) 1 1 (rowA d l) (nums_arr HV.out) (fun e => by cases e) (by omega) (by omega) hwid
        obtain ⟨_, h0, _⟩ | ⟨g, rfl, hgb⟩ := ho4.own_block
        · exact absurd h0 (by omega)
        have HR := Lib.hid hr
        have hs1 := HS1.out
        have hs2 := HS2.out
        have hsv := HSV.out
        have hsy := HSY.out
        have hgne : ∀ i, i < Y.heap.size → (∀ x, a2 = some x → i ≠ x.block) → i ≠ g := fun i hi h e => by
          rcases hfr _ rfl with h1 | h1
          · exact h _ h1 e
          · dsimp only at h1; omega
        have HGN := Lib.hid hgne
        have hq2 : ∀ x, a2 = some x → W2.heap.size ≠ x.block := fun x hx e => by have := (HO2.out.a.lt x hx).2; omega
        have HQN := Lib.hid hq2
        have HQZ : Hid (Z.heap[W2.heap.size]? = some (planB (p.moved a1 c1 a2 c2 a3 c3))) := Lib.hid ((hal W2.heap.size (by omega) hq2).trans HQY.out)
        have HYZ : Hid (Z.heap[w.heap.size + 1 + 1]? = some (planB noPlan)) := Lib.hid ((hbe.block _ (by omega)).trans HYY.out)
        have HBZ : Hid (Below w.heap.size w Z) := Lib.hid (HBY.out.trans (hbe.mono (by omega)))
        have HTZ := Lib.hid (HOY.out.t.kept (fun x hx => hal _ (HOY.out.t.lt x hx).2 (fun b hb => HAP.out.2.2 x b hx hb)))
        have HAZ := Lib.hid (HOY.out.s.kept (fun x hx => hal _ (HOY.out.s.lt x hx).2 (fun b hb e => HAP.out.2.1 b x hb hx e.symm)))
        have HOZ := Lib.hid ho4
        have HSZ2 : Hid (Y.heap.size ≤ Z.heap.size) := Lib.hid hbe.size
        have HTG : Hid (∀ x, a1 = some x → x.block ≠ g) := Lib.hid (fun x hx => hgne _ (HOY.out.t.lt x hx).2 (fun b hb => HAP.out.2.2 x b hx hb))
        have HSG : Hid (∀ x, a3 = some x → x.block ≠ g) := Lib.hid (fun x hx => hgne _ (HOY.out.s.lt x hx).2 (fun b hb e => HAP.out.2.1 b x hb hx e.symm))
        have HQG : Hid (W2.heap.size ≠ g) := Lib.hid (hgne _ (by omega) hq2)
        clear hoa hr ho4 hal hbe hfr hgb hs1 hs2 hsv hsy hgne hq2 hwid hi hz0 hz1 hz2
        have v4 := heap_cell HQV.out (j := 4) rfl
        have v4y := heap_cell HQY.out (j := 4) rfl
        have i0' := heap_cell HIV.out (j := 0) rfl
        have i1' := heap_cell HIV.out (j := 1) rfl
        have z4 := heap_cell HQZ.out (j := 4) rfl
        have g4 := heap_frozen HQZ.out 4
        go_upto_region 6 with (at_builtin; refine Lib.wpList_append_run _ rfl _ _ _ _ rfl _ _ rfl rfl _ _ HR.out ?_)
        obtain ⟨M, hM⟩ : ∃ M, Z.setCell ⟨W2.heap.size, 4, none⟩ (.slice (some ⟨g, 0, none⟩) (p.an + 1) c4) = M := ⟨_, rfl⟩
        have hs1 := HS1.out
        have hs2 := HS2.out
        have HQM0 : Hid (M.heap[W2.heap.size]? = some (planB ⟨p.fr, a1, p.tn, c1, p.sd, p.ck, some ⟨g, 0, none⟩, p.an + 1, c4, a3, p.sn, c3, p.bu⟩)) := Lib.hid (by rw [← hM]; exact heap_set HQZ.out 4 _)
        have HYM0 : Hid (M.heap[w.heap.size + 1 + 1]? = some (planB noPlan)) := Lib.hid (by rw [← hM]; exact (Below.heap_setCell _ _ _ _ (by dsimp only; omega)).trans HYZ.out)
        have HBM0 : Hid (Below w.heap.size w M) := Lib.hid (by rw [← hM]; exact HBZ.out.setCell (by dsimp only; omega) _)
        have HTM0 := Lib.hid (HTZ.out.kept (w' := M) (fun x hx => by rw [← hM]; exact Below.heap_setCell _ _ _ _ (HTZ.out.ne HQZ.out (by decide) x hx)))
        have HAM0 := Lib.hid (HAZ.out.kept (w' := M) (fun x hx => by rw [← hM]; exact Below.heap_setCell _ _ _ _ (HAZ.out.ne HQZ.out (by decide) x hx)))
        have HOM0 := Lib.hid (HOZ.out.kept (w' := M) (fun x hx => by rw [← hM]; exact Below.heap_setCell _ _ _ _ (HOZ.out.ne HQZ.out (by decide) x hx)))
        have HSM : Hid (M.heap.size = Z.heap.size) := Lib.hid (by rw [← hM]; simp)
        try rw [hM]
        clear hM z4 g4 v4 v4y i0' i1' hs1 hs2
        try clear hY
        have q4 := heap_cell HQM0.out (j := 4) rfl
        go_wp2_with fail
        refine (sort_any g c4 p.an A (rowA d l) W1.heap.size (by have := H4.out; omega) _ (by have := HSM.out; have := HSZ2.out; have := HSY.out; have := HSV.out; have := HS2.out; omega) HOM0.out (fun y x hxy hy => Pure.arr_sort HWT.out y x hxy hy)).mono ?_
        rintro e2 M2 ⟨⟨v0, rfl⟩, hbb, k, hk, hok⟩
        have HK : Hid (IsPlaceA A d p.an k) := Lib.hid hk
        have hs1 := HS1.out
        have hs2 := HS2.out
        have hsm := HSM.out
        have hsz := HSZ2.out
        have hsy := HSY.out
        have hsv := HSV.out
        have HQM : Hid (M2.heap[W2.heap.size]? = some (planB ⟨p.fr, a1, p.tn, c1, p.sd, p.ck, some ⟨g, 0, none⟩, p.an + 1, c4, a3, p.sn, c3, p.bu⟩)) := Lib.hid ((hbb.o _ (by omega) HQG.out).trans HQM0.out)
        have HYM : Hid (M2.heap[w.heap.size + 1 + 1]? = some (planB noPlan)) := Lib.hid ((hbb.b.block _ (by omega)).trans HYM0.out)
        have HBM : Hid (Below w.heap.size w M2) := Lib.hid (HBM0.out.trans (hbb.b.mono (by omega)))
        have HOM : Hid (OwnPlan M2 W1.heap.size ⟨p.fr, a1, p.tn, c1, p.sd, p.ck, some ⟨g, 0, none⟩, p.an + 1, c4, a3, p.sn, c3, p.bu⟩ T (Pure.insA A k (rowA d l)) S) := Lib.hid ⟨HTM0.out.kept (fun x hx => hbb.o _ (HTM0.out.lt x hx).2 (HTG.out x hx)), hok, HAM0.out.kept (fun x hx => hbb.o _ (HAM0.out.lt x hx).2 (HSG.out x hx))⟩
        have HPM := Lib.hid HOM.out.at
        clear hbb hk hok q4 hs1 hs2 hsm hsz hsy hsv
        obtain ⟨r, hr⟩ : ∃ r, Pure.plan { p with an := p.an + 1 } T (Pure.insA A k (rowA d l)) (S) = r := ⟨_, rfl⟩
        have HR2 := Lib.hid hr
        clear hr
        have q0 := heap_cell HQM.out (j := 0) rfl
        have q1 := heap_cell HQM.out (j := 1) rfl
        have q2 := heap_cell HQM.out (j := 2) rfl
        have q3 := heap_cell HQM.out (j := 3) rfl
        have q4 := heap_cell HQM.out (j := 4) rfl
        have q5 := heap_cell HQM.out (j := 5) rfl
        have q6 := heap_cell HQM.out (j := 6) rfl
        cases r
        · go_wp2_with fail
          refine (valid_no ⟨p.fr, a1, p.tn, c1, p.sd, p.ck, some ⟨g, 0, none⟩, p.an + 1, c4, a3, p.sn, c3, p.bu⟩ 44 T (Pure.insA A k (rowA d l)) (S) hn (by dsimp only; omega) (by dsimp only; omega) HR2.out _ HPM.out).mono ?_
          rintro e2 N ⟨rfl, hb⟩
          have HYN := Lib.hid (heap_lft HYM.out hb)
          have HBN := Lib.hid (below_thn HBM.out hb)
          have HON : Hid (OwnPlan N W1.heap.size ⟨p.fr, a1, p.tn, c1, p.sd, p.ck, some ⟨g, 0, none⟩, p.an + 1, c4, a3, p.sn, c3, p.bu⟩ T (Pure.insA A k (rowA d l)) (S)) := Lib.hid (HOM.out.below hb)
          clear hb q0 q1 q2 q3 q4 q5 q6
          have y0 := heap_cell HYN.out (j := 0) rfl
          have y1 := heap_cell HYN.out (j := 1) rfl
          have y2 := heap_cell HYN.out (j := 2) rfl
          have y3 := heap_cell HYN.out (j := 3) rfl
          have y4 := heap_cell HYN.out (j := 4) rfl
          have y5 := heap_cell HYN.out (j := 5) rfl
          have y6 := heap_cell HYN.out (j := 6) rfl
          have f0 := heap_frozen HYN.out 0
          have f1 := heap_frozen HYN.out 1
          have f2 := heap_frozen HYN.out 2
          have f3 := heap_frozen HYN.out 3
          have f4 := heap_frozen HYN.out 4
          have f5 := heap_frozen HYN.out 5
          have f6 := heap_frozen HYN.out 6
          go_wp2_with fail
          refine bodyPost_ret (v := .tuple #[planV noPlan, .int .i64 44]) (by simp [results, Try.results10, go_sem, y0, y1, y2, y3, y4, y5, y6]; try rfl) rfl ⟨noPlan, 44, rfl, ?_, .inr (.inr ⟨HWT.out, H4.out, k, HK.out, .inl ⟨HR2.out, rfl, rfl⟩⟩)⟩
          repeat (first | with_reducible exact HBN.out | with_reducible refine Below.setCell ?_ (by first | (simp; done) | (dsimp only; omega)) _)
        · go_wp2_with fail
          refine (valid_yes ⟨p.fr, a1, p.tn, c1, p.sd, p.ck, some ⟨g, 0, none⟩, p.an + 1, c4, a3, p.sn, c3, p.bu⟩ 44 T (Pure.insA A k (rowA d l)) (S) hn (by dsimp only; omega) (by dsimp only; omega) HR2.out _ HPM.out).mono ?_
          rintro e2 N ⟨rfl, hb⟩
          have HYN := Lib.hid (heap_lft HYM.out hb)
          have HBN := Lib.hid (below_thn HBM.out hb)
          have HON : Hid (OwnPlan N W1.heap.size ⟨p.fr, a1, p.tn, c1, p.sd, p.ck, some ⟨g, 0, none⟩, p.an + 1, c4, a3, p.sn, c3, p.bu⟩ T (Pure.insA A k (rowA d l)) (S)) := Lib.hid (HOM.out.below hb)
          clear hb q0 q1 q2 q3 q4 q5 q6
          have y0 := heap_cell HYN.out (j := 0) rfl
          have y1 := heap_cell HYN.out (j := 1) rfl
          have y2 := heap_cell HYN.out (j := 2) rfl
          have y3 := heap_cell HYN.out (j := 3) rfl
          have y4 := heap_cell HYN.out (j := 4) rfl
          have y5 := heap_cell HYN.out (j := 5) rfl
          have y6 := heap_cell HYN.out (j := 6) rfl
          have f0 := heap_frozen HYN.out 0
          have f1 := heap_frozen HYN.out 1
          have f2 := heap_frozen HYN.out 2
          have f3 := heap_frozen HYN.out 3
          have f4 := heap_frozen HYN.out 4
          have f5 := heap_frozen HYN.out 5
          have f6 := heap_frozen HYN.out 6
          go_wp2_with fail
          refine bodyPost_ret (v := .tuple #[planV (⟨p.fr, a1, p.tn, c1, p.sd, p.ck, some ⟨g, 0, none⟩, p.an + 1, c4, a3, p.sn, c3, p.bu⟩ : PlanX), .int .i64 0]) (by simp [results, Try.results10, go_sem, y0, y1, y2, y3, y4, y5, y6]; try rfl) rfl ⟨(⟨p.fr, a1, p.tn, c1, p.sd, p.ck, some ⟨g, 0, none⟩, p.an + 1, c4, a3, p.sn, c3, p.bu⟩ : PlanX), 0, rfl, ?_, .inr (.inr ⟨HWT.out, H4.out, k, HK.out, .inr ⟨HR2.out, rfl, a1, c1, some ⟨g, 0, none⟩, c4, a3, c3, rfl, ?_⟩⟩)⟩
          repeat (first | with_reducible exact HBN.out | with_reducible refine Below.setCell ?_ (by first | (simp; done) | (dsimp only; omega)) _)
          have hs1 := HS1.out
          refine ⟨OwnNums.base (base := W1.heap.size) ?_ (by omega), OwnNums.base (base := W1.heap.size) ?_ (by omega), OwnNums.base (base := W1.heap.size) ?_ (by omega)⟩
          · repeat (first | with_reducible exact HON.out.t | with_reducible refine OwnNums.set ?_ (by dsimp only; omega) _)
          · repeat (first | with_reducible exact HON.out.a | with_reducible refine OwnNums.set ?_ (by dsimp only; omega) _)
          · repeat (first | with_reducible exact HON.out.s | with_reducible refine OwnNums.set ?_ (by dsimp only; omega) _)
      · have hq0 : q = 9 := by rw [← HQ.out, hw]; simp [Pure.err, show ¬ (p.an : Int) < 6 by omega]
        subst hq0
        have HWT := Lib.hid hw
        have H4 := Lib.hid (show ¬ p.an < 6 by omega)
        clear hw h4
        have y0 := heap_cell HY1.out (j := 0) rfl
        have y1 := heap_cell HY1.out (j := 1) rfl
        have y2 := heap_cell HY1.out (j := 2) rfl
        have y3 := heap_cell HY1.out (j := 3) rfl
        have y4 := heap_cell HY1.out (j := 4) rfl
        have y5 := heap_cell HY1.out (j := 5) rfl
        have y6 := heap_cell HY1.out (j := 6) rfl
        have f0 := heap_frozen HY1.out 0
        have f1 := heap_frozen HY1.out 1
        have f2 := heap_frozen HY1.out 2
        have f3 := heap_frozen HY1.out 3
        have f4 := heap_frozen HY1.out 4
        have f5 := heap_frozen HY1.out 5
        have f6 := heap_frozen HY1.out 6
        go_wp2_with fail
        refine bodyPost_ret (v := .tuple #[planV noPlan, .int .i64 9]) (by simp [results, Try.results10, go_sem, y0, y1, y2, y3, y4, y5, y6]; try rfl) rfl ⟨noPlan, 9, rfl, ?_, .inr (.inl ⟨HWT.out, H4.out, rfl, rfl⟩)⟩
        repeat (first | with_reducible exact HB1.out | with_reducible refine Below.setCell ?_ (by first | (simp; done) | (dsimp only; omega)) _)
    · have hwf : Pure.plan p T A S = false := by simpa using hw
      have hq0 : q = 40 := by rw [← HQ.out, hwf]; simp [Pure.err]
      subst hq0
      have HWT := Lib.hid hwf
      clear hw hwf
      have y0 := heap_cell HY1.out (j := 0) rfl
      have y1 := heap_cell HY1.out (j := 1) rfl
      have y2 := heap_cell HY1.out (j := 2) rfl
      have y3 := heap_cell HY1.out (j := 3) rfl
      have y4 := heap_cell HY1.out (j := 4) rfl
      have y5 := heap_cell HY1.out (j := 5) rfl
      have y6 := heap_cell HY1.out (j := 6) rfl
      have f0 := heap_frozen HY1.out 0
      have f1 := heap_frozen HY1.out 1
      have f2 := heap_frozen HY1.out 2
      have f3 := heap_frozen HY1.out 3
      have f4 := heap_frozen HY1.out 4
      have f5 := heap_frozen HY1.out 5
      have f6 := heap_frozen HY1.out 6
      go_wp2_with fail
      refine bodyPost_ret (v := .tuple #[planV noPlan, .int .i64 40]) (by simp [results, Try.results10, go_sem, y0, y1, y2, y3, y4, y5, y6]; try rfl) rfl ⟨noPlan, 40, rfl, ?_, .inl ⟨HWT.out, rfl, rfl⟩⟩
      repeat (first | with_reducible exact HB1.out | with_reducible refine Below.setCell ?_ (by first | (simp; done) | (dsimp only; omega)) _)

end Go.Proofs.Ytknpdjbokgenpaa
