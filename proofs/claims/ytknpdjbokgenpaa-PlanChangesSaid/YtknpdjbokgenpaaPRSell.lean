/-
  The contract of the specification's Sell.
-/
import Derived.Test.YtknpdjbokgenpaaPLine
import Derived.Test.YtknpdjbokgenpaaPSell
namespace Go.Proofs.Ytknpdjbokgenpaa
open Go.RowKit

set_option maxHeartbeats 8000000 in
set_option maxRecDepth 100000 in
theorem rSell_any (p : PlanX) (T A S : Nat → Int) (i s l d : Int) (hn : p.tn ≤ 40) (ha : p.an ≤ 38) (hs : p.sn ≤ 38) (hbA : ∀ j, j < p.an * 2 → A j ≤ 9223372036854775807) (hbS : ∀ j, j < p.sn * 4 → S j ≤ 9223372036854775807) (hx : i ≤ 9223372036854775807 ∧ s ≤ 9223372036854775807 ∧ l ≤ 9223372036854775807 ∧ d ≤ 9223372036854775807) (hc : p.sn ≤ p.sc) (hnil : p.sa = none → p.sn = 0) (w : World) (h : PlanAt w p T A S) :
    Calls Try.prog 7 #[planV p, saleV i s l d] w (SellOut p T A S i s l d w) := by
  have HBA := Lib.hid hbA
  have HBG := Lib.hid hbS
  have HXB := Lib.hid hx
  have HC := Lib.hid (And.intro hc hnil)
  clear hbA hbS hx hc hnil
  obtain ⟨W, hW⟩ : ∃ W, ((w.alloc (planB p)).alloc (saleB i s l d)).alloc (planB noPlan) = W := ⟨_, rfl⟩
  have HB : Hid (Below w.heap.size w W) := Lib.hid (by rw [← hW]; exact ((below_new _ _).alloc (by simp) _).alloc (by simp; omega) _)
  have HX : Hid (W.heap[w.heap.size]? = some (planB p)) := Lib.hid (by rw [← hW]; exact heap_up (heap_up (heap_top _ _ rfl) _) _)
  have HI : Hid (W.heap[w.heap.size + 1]? = some (saleB i s l d)) := Lib.hid (by rw [← hW]; exact heap_up (heap_top _ _ (by simp)) _)
  have HY : Hid (W.heap[w.heap.size + 1 + 1]? = some (planB noPlan)) := Lib.hid (by rw [← hW]; exact heap_top _ _ (by simp))
  have HSZ : Hid (W.heap.size = w.heap.size + 3) := Lib.hid (by rw [← hW]; simp)
  have HP : Hid (PlanAt W p T A S) := Lib.hid (h.below HB.out)
  clear h
  obtain ⟨r, hr⟩ : ∃ r, Pure.plan p T A S = r := ⟨_, rfl⟩
  have HWT := Lib.hid hr
  clear hr
  have x0 := heap_cell HX.out (j := 0) rfl
  have x1 := heap_cell HX.out (j := 1) rfl
  have x2 := heap_cell HX.out (j := 2) rfl
  have x3 := heap_cell HX.out (j := 3) rfl
  have x4 := heap_cell HX.out (j := 4) rfl
  have x5 := heap_cell HX.out (j := 5) rfl
  have x6 := heap_cell HX.out (j := 6) rfl
  go_enter Try.func7, Try.ntmps7
  go_upto_region 1 with fail
  try rw [hW]
  clear hW
  go_wp2_with fail
  refine (rPlan_any p T A S hn (by omega) (by omega) HBA.out HBG.out _ HP.out).mono ?_
  rintro e2 W1 ⟨rfl, hb⟩
  rw [HWT.out]
  have HX1 := Lib.hid (heap_lft HX.out hb)
  have HI1 := Lib.hid (heap_lft HI.out hb)
  have HY1 := Lib.hid (heap_lft HY.out hb)
  have HB1 := Lib.hid (below_thn HB.out hb)
  have HP1 := Lib.hid (HP.out.below hb)
  have HS1 : Hid (w.heap.size + 3 ≤ W1.heap.size) := Lib.hid (by have := hb.size; have := HSZ.out; omega)
  clear hb x0 x1 x2 x3 x4 x5 x6
  have x0 := heap_cell HX1.out (j := 0) rfl
  have x1 := heap_cell HX1.out (j := 1) rfl
  have x2 := heap_cell HX1.out (j := 2) rfl
  have x3 := heap_cell HX1.out (j := 3) rfl
  have x4 := heap_cell HX1.out (j := 4) rfl
  have x5 := heap_cell HX1.out (j := 5) rfl
  have x6 := heap_cell HX1.out (j := 6) rfl
  have y0 := heap_cell HY1.out (j := 0) rfl
  have y1 := heap_cell HY1.out (j := 1) rfl
  have y2 := heap_cell HY1.out (j := 2) rfl
  have y3 := heap_cell HY1.out (j := 3) rfl
  have y4 := heap_cell HY1.out (j := 4) rfl
  have y5 := heap_cell HY1.out (j := 5) rfl
  have y6 := heap_cell HY1.out (j := 6) rfl
  have f0 := heap_frozen HY1.out 0
  have f1 := heap_frozen HY1.out 1
  have f2 := heap_frozen HY1.out 2
  have f3 := heap_frozen HY1.out 3
  have f4 := heap_frozen HY1.out 4
  have f5 := heap_frozen HY1.out 5
  have f6 := heap_frozen HY1.out 6
  cases r
  · go_wp2_with fail
    refine bodyPost_ret (v := .tuple #[planV noPlan, .int .i64 40]) (by simp [results, Try.results7, go_sem, y0, y1, y2, y3, y4, y5, y6]; try rfl) rfl ⟨noPlan, 40, rfl, ?_, .inl ⟨HWT.out, rfl, rfl⟩⟩
    repeat (first | with_reducible exact HB1.out | with_reducible refine Below.setCell ?_ (by first | (simp; done) | (dsimp only; omega)) _)
  · by_cases h4 : p.sn = 8
    · have H4 := Lib.hid h4
      have h4' : ((p.sn : Int) == 8) = true := by rw [h4]; rfl
      clear h4
      go_wp2_with fail
      refine bodyPost_ret (v := .tuple #[planV noPlan, .int .i64 9]) (by simp [results, Try.results7, go_sem, y0, y1, y2, y3, y4, y5, y6]; try rfl) rfl ⟨noPlan, 9, rfl, ?_, .inr (.inl ⟨HWT.out, (by have := H4.out; omega), rfl, rfl⟩)⟩
      repeat (first | with_reducible exact HB1.out | with_reducible refine Below.setCell ?_ (by first | (simp; done) | (dsimp only; omega)) _)
    · have hn4 : p.sn < 8 := by have := (Pure.plan_iff.1 HWT.out).sn; omega
      have H4 := Lib.hid hn4
      have h4' : ((p.sn : Int) == 8) = false := beq_eq_false_iff_ne.2 (by omega)
      clear h4 hn4 y0 y1 y2 y3 y4 y5 y6 f0 f1 f2 f3 f4 f5 f6
      go_wp2_with fail
      refine (twin_any p T A S hn (by omega) (by omega) _ HP1.out).mono ?_
      rintro e2 W2 ⟨a1, c1, a2, c2, a3, c3, rfl, ho, hb⟩
      have HX2 := Lib.hid (heap_lft HX1.out hb)
      have HI2 := Lib.hid (heap_lft HI1.out hb)
      have HY2 := Lib.hid (heap_lft HY1.out hb)
      have HP2 := Lib.hid (HP1.out.below hb)
      have HB2 := Lib.hid (below_thn HB1.out hb)
      have HO2 := Lib.hid ho
      have HS2 : Hid (W1.heap.size ≤ W2.heap.size) := Lib.hid hb.size
      clear hb ho x0 x1 x2 x3 x4 x5 x6
      go_upto_region 6 with fail
      obtain ⟨V, hV⟩ : ∃ V, W2.alloc (planB (p.moved a1 c1 a2 c2 a3 c3)) = V := ⟨_, rfl⟩
      have hbv : Below W2.heap.size W2 V := by rw [← hV]; exact below_new _ _
      have HQV : Hid (V.heap[W2.heap.size]? = some (planB (p.moved a1 c1 a2 c2 a3 c3))) := Lib.hid (by rw [← hV]; exact heap_top _ _ rfl)
      have HXV := Lib.hid (heap_lft HX2.out hbv)
      have HIV := Lib.hid (heap_lft HI2.out hbv)
      have HYV := Lib.hid (heap_lft HY2.out hbv)
      have HBV := Lib.hid (below_thn HB2.out hbv)
      have HOV := Lib.hid (HO2.out.below hbv)
      have HPV := Lib.hid (HP2.out.below hbv)
      try rw [hV]
      clear hV hbv
      go_wp2_with fail
      go_loopw [7] (fun s wr => ∃ k : Nat, k ≤ p.sn ∧ s = .int .i64 k ∧ (∀ m, m < k → S (m * 4) < i) ∧ Below V.heap.size V wr) (fun s _ => p.sn - (intOf s).toNat)
      case atStart => exact ⟨0, Nat.zero_le _, rfl, fun m hm => by omega, Below.refl _ _⟩
      case round =>
        obtain ⟨k, hk, rfl, hlo, hb⟩ := hrel
        have HLO := Lib.hid hlo
        have HBk := Lib.hid hb
        have HXk := Lib.hid (heap_lft HXV.out hb)
        have HIk := Lib.hid (heap_lft HIV.out hb)
        clear hlo hb
        have z1 : wr.cell? ⟨w.heap.size, 5, none⟩ = some (.slice p.sa p.sn p.sc) := heap_cell HXk.out (j := 5) rfl
        have i0 := heap_cell HIk.out (j := 0) rfl
        go_upto_region 7 with fail
        go_cut [34] from 19 to 36 (fun s wx => s = .bool (decide (k < p.sn ∧ S (k * 4) < i)) ∧ Below V.heap.size V wx)
        case first =>
          by_cases hk1 : k < p.sn
          · obtain ⟨b, off, hab, _⟩ := HPV.out.s (k * 4) (by omega)
            have n1 : (k : Int) < p.sn := by omega
            have n2 : decide ((k : Int) < p.sn) = true := decide_eq_true n1
            have hnn := HPV.out.s.below HBk.out
            rw [hab] at z1 hnn
            have p0 := hnn.at (show k * 4 < p.sn * 4 by omega)
            clear hnn
            have xx0 := among_below p0
            have xx2 := among_below z1
            have xx3 := among_below i0
            have HSt : Hid (Below wr.heap.size wr wr.drew) := Lib.hid (Below.refl _ _).drew
            have hne : Nonempty (Among (Below wr.heap.size wr)) := ⟨⟨_, HSt.out⟩⟩
            refine wp_region_class (Below wr.heap.size wr) (by kernel_rfl) (by kernel_rfl) HSt.out ?_
            repeat (go_big_quiet_step (fail))
            refine wpQuiet_nil ?_
            intro w8 hx
            have HB8 := Lib.hid (below_thn HBk.out (among_out hx))
            clear hx hne xx0 xx2 xx3 p0 z1 i0
            go_wp2_with fail
            go_meet
            exact ⟨by simp [hk1], HB8.out⟩
          · have n1 : ¬ (k : Int) < p.sn := by omega
            have n2 : decide ((k : Int) < p.sn) = false := decide_eq_false n1
            have xx2 := among_below z1
            have xx3 := among_below i0
            have HSt : Hid (Below wr.heap.size wr wr.drew) := Lib.hid (Below.refl _ _).drew
            have hne : Nonempty (Among (Below wr.heap.size wr)) := ⟨⟨_, HSt.out⟩⟩
            refine wp_region_class (Below wr.heap.size wr) (by kernel_rfl) (by kernel_rfl) HSt.out ?_
            repeat (go_big_quiet_step (fail))
            refine wpQuiet_nil ?_
            intro w8 hx
            have HB8 := Lib.hid (below_thn HBk.out (among_out hx))
            clear hx hne xx2 xx3 z1 i0
            go_wp2_with fail
            go_meet
            exact ⟨by simp [hk1], HB8.out⟩
        case rest =>
          obtain ⟨W5, rfl⟩ : ∃ x, x = wc := ⟨_, rfl⟩
          obtain ⟨rfl, hb⟩ := hcut
          have HB5k := Lib.hid hb
          clear hb z1 i0
          obtain ⟨g, hg⟩ : ∃ g, decide (k < p.sn ∧ S (k * 4) < i) = g := ⟨_, rfl⟩
          rw [hg]
          have HG := Lib.hid hg
          clear hg
          cases g
          · have HX5 := Lib.hid (heap_lft HXV.out HB5k.out)
            have HI5 := Lib.hid (heap_lft HIV.out HB5k.out)
            have HY5 := Lib.hid (heap_lft HYV.out HB5k.out)
            have HQ5 := Lib.hid (heap_lft HQV.out HB5k.out)
            have HB5 := Lib.hid (below_thn HBV.out HB5k.out)
            have HP5 := Lib.hid (HPV.out.below HB5k.out)
            have HO5 := Lib.hid (HOV.out.below HB5k.out)
            have HS5 : Hid (W2.heap.size < W5.heap.size) := Lib.hid (Array.getElem?_eq_some_iff.1 HQ5.out).1
            have HK : Hid (IsPlace S i p.sn k) := Lib.hid ⟨hk, HLO.out, fun m hm hmn => by
              have h1 := of_decide_eq_false HG.out
              have h2 : ¬ (S (k * 4) < i) := fun h4 => h1 ⟨by omega, h4⟩
              by_cases e : m = k
              · subst e; omega
              · have := Pure.sale_sort HWT.out m k (by omega) hmn; omega⟩
            go_upto_region 9 with fail
            go_cut [] from 37 to 51 (fun wx => ∃ a4 c4, wx.heap[W2.heap.size]? = some (planB ⟨p.fr, a1, p.tn, c1, p.sd, p.ck, a2, p.an, c2, a4, p.sn + 1, c4, p.bu⟩) ∧ OwnNums wx W5.heap.size 28 4 a4 (p.sn + 1) c4 (Pure.insF S k (rowS i s l d)) ∧ BelowBut W2.heap.size W2.heap.size W5 wx)
            case first =>
              rename_i J K' hJ hK'
              generalize hA : (Act.mk _ _ : Act) = a0
              have m2 : At a0 2 (.pointer (some ⟨w.heap.size, 0, none⟩)) := by rw [← hA]; rfl
              have m3 : At a0 3 (.pointer (some ⟨w.heap.size + 1, 0, none⟩)) := by rw [← hA]; rfl
              have m6 : At a0 6 (.pointer (some ⟨W2.heap.size, 0, none⟩)) := by rw [← hA]; rfl
              have m7 : At a0 7 (.int .i64 k) := by rw [← hA]; rfl
              have hsz : 51 < a0.tmps.size := by rw [← hA]; exact of_decide_eq_true (by kernel_rfl)
              have hfin : ∀ a' w', Kept (List.range' 37 15) a0 a' → (∃ a4 c4, w'.heap[W2.heap.size]? = some (planB ⟨p.fr, a1, p.tn, c1, p.sd, p.ck, a2, p.an, c2, a4, p.sn + 1, c4, p.bu⟩) ∧ OwnNums w' W5.heap.size 28 4 a4 (p.sn + 1) c4 (Pure.insF S k (rowS i s l d)) ∧ BelowBut W2.heap.size W2.heap.size W5 w') → K' a' w' := by
                intro a' w' hI hL
                refine hK' _ _ (Met.intro (hJ _ _ ⟨a'.tmps.getD 37 undef, a'.tmps.getD 38 undef, a'.tmps.getD 39 undef, a'.tmps.getD 40 undef, a'.tmps.getD 41 undef, a'.tmps.getD 42 undef, a'.tmps.getD 43 undef, a'.tmps.getD 44 undef, a'.tmps.getD 45 undef, a'.tmps.getD 46 undef, a'.tmps.getD 47 undef, a'.tmps.getD 48 undef, a'.tmps.getD 49 undef, a'.tmps.getD 50 undef, a'.tmps.getD 51 undef, hL, hI.eq.trans ?_⟩))
                rw [← hA]
                kernel_rfl
              have hI : Kept (List.range' 37 15) a0 a0 := Kept.refl _ _
              clear hA hJ hK' J
              refine with_pan (fun d _ _ _ _ h => by cases d <;> exact h) ?_
              intro hpan
              refine wp_region_rest (fun z => z.heap[w.heap.size]? = some (planB p) ∧ z.heap[w.heap.size + 1]? = some (saleB i s l d)) (by kernel_rfl) ?_
              obtain ⟨wz, hwz⟩ : ∃ x, W5.drew = x := ⟨_, rfl⟩
              change Rest _ _ _ _ _ _ _ (W5.drew)
              rw [hwz]
              have hq : Below W5.heap.size W5 wz := by rw [← hwz]; exact (Below.refl _ _).drew
              clear hwz
              have hS : wz.heap[w.heap.size]? = some (planB p) ∧ wz.heap[w.heap.size + 1]? = some (saleB i s l d) := ⟨heap_lft HX5.out hq, heap_lft HI5.out hq⟩
              have hkn := HK.out.le
              have hcn := HC.out.1
              have hn4 := H4.out
              refine rest_take (k := 1) (d := 38) (v := .pointer (some ⟨w.heap.size, 5, none⟩)) hI rfl rfl (by kernel_rfl) (Nat.lt_of_le_of_lt (by decide) hsz) (by kernel_rfl) hpan (by kernel_rfl) hS (wanted_free rfl) (fun z hz => by have n2 := hI.at m2 (by kernel_rfl); have e2 := n2; have f2 := n2.eval; unfold At at e2; simp [go_sem, e2]) (fun a' hI' n38' hk => ?_)
              have n38 := n38'
              replace hI := hI'
              clear hk hI' n38'
              obtain ⟨act9, rfl⟩ : ∃ x, x = a' := ⟨_, rfl⟩
              refine rest_take (k := 2) (d := 39) (v := .slice p.sa p.sn p.sc) hI rfl rfl (by kernel_rfl) (Nat.lt_of_le_of_lt (by decide) hsz) (by kernel_rfl) hpan (by kernel_rfl) hS (wanted_free rfl) (fun z hz => by have e38 := n38; have f38 := n38.eval; unfold At at e38; have k5 := heap_cell hz.1 (j := 5) rfl; simp [go_sem, e38, k5]) (fun a' hI' n39' hk => ?_)
              replace n38 := hk _ _ n38 rfl
              have n39 := n39'
              replace hI := hI'
              clear hk hI' n39'
              obtain ⟨act9, rfl⟩ : ∃ x, x = a' := ⟨_, rfl⟩
              clear n38
              refine rest_take (k := 3) (d := 40) (v := .int .i64 k) hI rfl rfl (by kernel_rfl) (Nat.lt_of_le_of_lt (by decide) hsz) (by kernel_rfl) hpan (by kernel_rfl) hS (wanted_free rfl) (fun z hz => by have n7 := hI.at m7 (by kernel_rfl); have e7 := n7; have f7 := n7.eval; unfold At at e7; simp [go_sem, e7]) (fun a' hI' n40' hk => ?_)
              replace n39 := hk _ _ n39 rfl
              have n40 := n40'
              replace hI := hI'
              clear hk hI' n40'
              obtain ⟨act9, rfl⟩ : ∃ x, x = a' := ⟨_, rfl⟩
              refine rest_take (k := 4) (d := 41) (v := .slice p.sa k p.sc) hI rfl rfl (by kernel_rfl) (Nat.lt_of_le_of_lt (by decide) hsz) (by kernel_rfl) hpan (by kernel_rfl) hS (wanted_free rfl) (fun z hz => by have e39 := n39; have f39 := n39.eval; unfold At at e39; have e40 := n40; have f40 := n40.eval; unfold At at e40; exact exec_slice_hi 24 28 (.tmp 39) (.tmp 40) 4 rfl Try.underlying24 (fun w => by kernel_rfl) f39 f40 (by omega)) (fun a' hI' n41' hk => ?_)
              replace n39 := hk _ _ n39 rfl
              replace n40 := hk _ _ n40 rfl
              have n41 := n41'
              replace hI := hI'
              clear hk hI' n41'
              obtain ⟨act9, rfl⟩ : ∃ x, x = a' := ⟨_, rfl⟩
              clear n39
              clear n40
              refine rest_take (k := 6) (d := 43) (v := saleV i s l d) hI rfl rfl (by kernel_rfl) (Nat.lt_of_le_of_lt (by decide) hsz) (by kernel_rfl) hpan (by kernel_rfl) hS (wanted_free rfl) (fun z hz => by have n3 := hI.at m3 (by kernel_rfl); have e3 := n3; have f3 := n3.eval; unfold At at e3; have k0 := heap_cell hz.2 (j := 0) rfl; have k1 := heap_cell hz.2 (j := 1) rfl; have k2 := heap_cell hz.2 (j := 2) rfl; have k3 := heap_cell hz.2 (j := 3) rfl; simp [go_sem, e3, k0, k1, k2, k3]) (fun a' hI' n43' hk => ?_)
              replace n41 := hk _ _ n41 rfl
              have n43 := n43'
              replace hI := hI'
              clear hk hI' n43'
              obtain ⟨act9, rfl⟩ : ∃ x, x = a' := ⟨_, rfl⟩
              refine rest_take (k := 9) (d := 46) (v := .pointer (some ⟨w.heap.size, 5, none⟩)) hI rfl rfl (by kernel_rfl) (Nat.lt_of_le_of_lt (by decide) hsz) (by kernel_rfl) hpan (by kernel_rfl) hS (wanted_free rfl) (fun z hz => by have n2 := hI.at m2 (by kernel_rfl); have e2 := n2; have f2 := n2.eval; unfold At at e2; simp [go_sem, e2]) (fun a' hI' n46' hk => ?_)
              replace n41 := hk _ _ n41 rfl
              replace n43 := hk _ _ n43 rfl
              have n46 := n46'
              replace hI := hI'
              clear hk hI' n46'
              obtain ⟨act9, rfl⟩ : ∃ x, x = a' := ⟨_, rfl⟩
              refine rest_take (k := 10) (d := 47) (v := .slice p.sa p.sn p.sc) hI rfl rfl (by kernel_rfl) (Nat.lt_of_le_of_lt (by decide) hsz) (by kernel_rfl) hpan (by kernel_rfl) hS (wanted_free rfl) (fun z hz => by have e46 := n46; have f46 := n46.eval; unfold At at e46; have k5 := heap_cell hz.1 (j := 5) rfl; simp [go_sem, e46, k5]) (fun a' hI' n47' hk => ?_)
              replace n41 := hk _ _ n41 rfl
              replace n43 := hk _ _ n43 rfl
              replace n46 := hk _ _ n46 rfl
              have n47 := n47'
              replace hI := hI'
              clear hk hI' n47'
              obtain ⟨act9, rfl⟩ : ∃ x, x = a' := ⟨_, rfl⟩
              clear n46
              refine rest_take (k := 11) (d := 48) (v := .int .i64 k) hI rfl rfl (by kernel_rfl) (Nat.lt_of_le_of_lt (by decide) hsz) (by kernel_rfl) hpan (by kernel_rfl) hS (wanted_free rfl) (fun z hz => by have n7 := hI.at m7 (by kernel_rfl); have e7 := n7; have f7 := n7.eval; unfold At at e7; simp [go_sem, e7]) (fun a' hI' n48' hk => ?_)
              replace n41 := hk _ _ n41 rfl
              replace n43 := hk _ _ n43 rfl
              replace n47 := hk _ _ n47 rfl
              have n48 := n48'
              replace hI := hI'
              clear hk hI' n48'
              obtain ⟨act9, rfl⟩ : ∃ x, x = a' := ⟨_, rfl⟩
              refine rest_take (k := 12) (d := 49) (v := .slice (tailA p.sa p.sc k 4) (p.sn - k) (p.sc - k)) hI rfl rfl (by kernel_rfl) (Nat.lt_of_le_of_lt (by decide) hsz) (by kernel_rfl) hpan (by kernel_rfl) hS (wanted_free rfl) (fun z hz => by have e47 := n47; have f47 := n47.eval; unfold At at e47; have e48 := n48; have f48 := n48.eval; unfold At at e48; exact exec_slice_lo 24 28 (.tmp 47) (.tmp 48) 4 rfl Try.underlying24 (fun w => by kernel_rfl) f47 f48 (by omega)) (fun a' hI' n49' hk => ?_)
              replace n41 := hk _ _ n41 rfl
              replace n43 := hk _ _ n43 rfl
              replace n47 := hk _ _ n47 rfl
              replace n48 := hk _ _ n48 rfl
              have n49 := n49'
              replace hI := hI'
              clear hk hI' n49'
              obtain ⟨act9, rfl⟩ : ∃ x, x = a' := ⟨_, rfl⟩
              clear n47
              clear n48
              obtain ⟨i0, hi, hz0, hz1', hz2⟩ := infoSale
              refine rest_name (fun R hR => ?_)
              have hnk : 0 + k + 1 + (p.sn - k) = p.sn + 1 := by omega
              have s4T : ∀ ac wo, LineSt (List.range' 37 15) a0 W5 28 4 [(41, .slice p.sa k p.sc), (43, saleV i s l d), (49, .slice (tailA p.sa p.sc k 4) (p.sn - k) (p.sc - k))] 44 (saleB i s l d) 0 (planB noPlan) 50 (0 + k + 1 + (p.sn - k)) (joinF (joinF (joinF S (0 * 4) S) ((0 + k) * 4) (rowS i s l d)) ((0 + k + 1) * 4) (fun q => S (k * 4 + q))) true true false ac wo → R 2 [12, 11, 10, 9, 6, 4, 3, 2, 1, 0, 5, 8, 13, 7] ac wo := by
                intro ac wo hst
                rw [hR]
                obtain ⟨sx, cp, h1, h2, h3⟩ := hst.row
                have ho : OwnNums wo W5.heap.size 28 4 sx (p.sn + 1) cp (Pure.insF S k (rowS i s l d)) := by
                  have g := (h1 rfl).2
                  rw [hnk] at g
                  refine g.congr (fun q hq => ?_)
                  simp only [joinF, Pure.insF, Nat.zero_add, Nat.zero_mul, Nat.not_lt_zero, if_false, Nat.sub_zero]
                  by_cases g1 : q < k * 4
                  · rw [if_pos (by omega), if_pos g1, if_pos g1]
                  · by_cases g2 : q < k * 4 + 4
                    · rw [if_pos (by omega), if_neg g1, if_neg g1, if_pos g2]
                    · rw [if_neg (by omega), if_neg g1, if_neg g2]
                      congr 1
                      omega
                have n50 := (h1 rfl).1
                rw [hnk] at n50
                have hI := hst.kept
                have hS : wo.heap[w.heap.size]? = some (planB p) ∧ wo.heap[w.heap.size + 1]? = some (saleB i s l d) := ⟨heap_lft HX5.out hst.below, heap_lft HI5.out hst.below⟩
                have hs1 := HS1.out
                have hs2 := HS2.out
                have hs5 := HS5.out
                have hqo := heap_lft HQ5.out hst.below
                obtain ⟨Z, hZ⟩ : ∃ Z, wo.setCell ⟨W2.heap.size, 5, none⟩ (.slice sx (p.sn + 1) cp) = Z := ⟨_, rfl⟩
                have hqZ : Z.heap[W2.heap.size]? = some (planB ⟨p.fr, a1, p.tn, c1, p.sd, p.ck, a2, p.an, c2, sx, p.sn + 1, cp, p.bu⟩) := by rw [← hZ]; exact heap_set hqo 5 _
                have hoZ : OwnNums Z W5.heap.size 28 4 sx (p.sn + 1) cp (Pure.insF S k (rowS i s l d)) := by rw [← hZ]; exact ho.set (by dsimp only; omega) _
                have hbZ : BelowBut W2.heap.size W2.heap.size W5 Z := by rw [← hZ]; exact BelowBut.set ⟨hst.below.mono (by omega), fun i hi hne => hst.below.block i hi⟩ (Nat.le_refl _) _ _
                have hSZ : Z.heap[w.heap.size]? = some (planB p) ∧ Z.heap[w.heap.size + 1]? = some (saleB i s l d) := by rw [← hZ]; exact ⟨(Below.heap_setCell _ _ _ _ (by dsimp only; omega)).trans hS.1, (Below.heap_setCell _ _ _ _ (by dsimp only; omega)).trans hS.2⟩
                refine rest_take (k := 14) (d := 51) (v := .pointer (some ⟨W2.heap.size, 5, none⟩)) hI rfl rfl (by kernel_rfl) (Nat.lt_of_le_of_lt (by decide) hsz) (by kernel_rfl) hpan (by kernel_rfl) hS (wanted_free rfl) (fun z hz => by have n6 := hI.at m6 (by kernel_rfl); have e6 := n6; have f6 := n6.eval; unfold At at e6; simp [go_sem, e6]) (fun a' hI' n51' hk => ?_)
                replace n50 := hk _ _ n50 rfl
                have n51 := n51'
                replace hI := hI'
                clear hk hI' n51'
                obtain ⟨act9, rfl⟩ : ∃ x, x = a' := ⟨_, rfl⟩
                refine rest_only (k := 15) (by kernel_rfl) (op_store (k := 15) rfl rfl (wanted_free rfl) (by have e50 := n50; have f50 := n50.eval; unfold At at e50; have e51 := n51; have f51 := n51.eval; unfold At at e51; have k0 := heap_cell hqo (j := 5) rfl; have f0 := heap_frozen hqo 5; simp [go_sem, e50, e51, k0, f0]; try rfl) ⟨by rw [hZ]; exact hSZ, ?_⟩)
                refine rest_done (by kernel_rfl) ?_
                rw [hZ]
                exact hfin _ _ hI ⟨sx, cp, hqZ, hoZ, hbZ⟩
              have s3T : ∀ ac wo, LineSt (List.range' 37 15) a0 W5 28 4 [(41, .slice p.sa k p.sc), (43, saleV i s l d), (49, .slice (tailA p.sa p.sc k 4) (p.sn - k) (p.sc - k))] 44 (saleB i s l d) 0 (planB noPlan) 45 (0 + k + 1) (joinF (joinF S (0 * 4) S) ((0 + k) * 4) (rowS i s l d)) true true false ac wo → R 3 [12, 11, 10, 9, 6, 4, 3, 2, 1, 0, 5, 8, 7] ac wo := by
                intro ac wo hst
                rw [hR]
                refine rest_split [13] (by kernel_rfl) rfl (fun i9 hi9 => ?_)
                have hi9' : i9 = 13 := by simpa using hi9
                clear hi9
                rcases hi9' with rfl
                · exact line_app (i := 13) (xs := 49) Try.underlying24 hi hz0 hz1' hz2 rfl (by decide) (by decide) rfl rfl rfl rfl (by kernel_rfl) (Nat.lt_of_le_of_lt (by decide) hsz) (by kernel_rfl) rfl rfl hst (hst.fix (49, .slice (tailA p.sa p.sc k 4) (p.sn - k) (p.sc - k)) (by simp)) ((HP5.out.s.below hst.below).tail hkn hcn) (fun e => by have := HC.out.2 (tailA_none e); omega) (by omega) (by omega) (fun a' w' hst' => ⟨⟨heap_lft HX5.out hst'.below, heap_lft HI5.out hst'.below⟩, Rest.same (d' := [12, 11, 10, 9, 6, 4, 3, 2, 1, 0, 5, 8, 13, 7]) (by rw [← hR]; exact s4T a' w' hst') (by kernel_rfl)⟩)
              have s2T : ∀ ac wo, LineSt (List.range' 37 15) a0 W5 28 4 [(41, .slice p.sa k p.sc), (43, saleV i s l d), (49, .slice (tailA p.sa p.sc k 4) (p.sn - k) (p.sc - k))] 44 (saleB i s l d) 0 (planB noPlan) 42 (0 + k) (joinF S (0 * 4) S) true true false ac wo → R 4 [12, 11, 10, 9, 6, 4, 3, 2, 1, 0, 5, 7] ac wo := by
                intro ac wo hst
                rw [hR]
                refine rest_split [8] (by kernel_rfl) rfl (fun i9 hi9 => ?_)
                have hi9' : i9 = 8 := by simpa using hi9
                clear hi9
                rcases hi9' with rfl
                · obtain ⟨_, _, _, hb9, _⟩ := hst.row
                  obtain ⟨B, b1, b2, b3, b4⟩ := hb9 rfl
                  exact line_app (i := 8) (xs := 44) Try.underlying24 hi hz0 hz1' hz2 rfl (by decide) (by decide) rfl rfl rfl rfl (by kernel_rfl) (Nat.lt_of_le_of_lt (by decide) hsz) (by kernel_rfl) rfl rfl hst b1 (nums_sale b4) (fun e => by cases e) (by omega) (by omega) (fun a' w' hst' => ⟨⟨heap_lft HX5.out hst'.below, heap_lft HI5.out hst'.below⟩, Rest.same (d' := [12, 11, 10, 9, 6, 4, 3, 2, 1, 0, 5, 8, 7]) (by rw [← hR]; exact s3T a' w' hst') (by kernel_rfl)⟩)
              have s2F : ∀ ac wo, LineSt (List.range' 37 15) a0 W5 28 4 [(41, .slice p.sa k p.sc), (43, saleV i s l d), (49, .slice (tailA p.sa p.sc k 4) (p.sn - k) (p.sc - k))] 44 (saleB i s l d) 0 (planB noPlan) 42 (0 + k) (joinF S (0 * 4) S) true false false ac wo → R 5 [12, 11, 10, 9, 6, 4, 3, 2, 1, 0, 5] ac wo := by
                intro ac wo hst
                rw [hR]
                refine rest_split [7] (by kernel_rfl) rfl (fun i9 hi9 => ?_)
                have hi9' : i9 = 7 := by simpa using hi9
                clear hi9
                rcases hi9' with rfl
                · exact line_box9 (i := 7) rfl rfl rfl (by kernel_rfl) (Nat.lt_of_le_of_lt (by decide) hsz) (by kernel_rfl) rfl rfl hst (by have e43 := (hst.fix (43, saleV i s l d) (by simp)); have f43 := e43.eval; unfold At at e43; simp [go_sem, e43]; try rfl) (fun a' w' hst' => ⟨⟨heap_lft HX5.out hst'.below, heap_lft HI5.out hst'.below⟩, Rest.same (d' := [12, 11, 10, 9, 6, 4, 3, 2, 1, 0, 5, 7]) (by rw [← hR]; exact s2T a' w' hst') (by kernel_rfl)⟩)
              have s1T : ∀ ac wo, LineSt (List.range' 37 15) a0 W5 28 4 [(41, .slice p.sa k p.sc), (43, saleV i s l d), (49, .slice (tailA p.sa p.sc k 4) (p.sn - k) (p.sc - k))] 44 (saleB i s l d) 0 (planB noPlan) 37 (0) (S) true true false ac wo → R 5 [12, 11, 10, 9, 6, 4, 3, 2, 1, 0, 7] ac wo := by
                intro ac wo hst
                rw [hR]
                refine rest_split [5] (by kernel_rfl) rfl (fun i9 hi9 => ?_)
                have hi9' : i9 = 5 := by simpa using hi9
                clear hi9
                rcases hi9' with rfl
                · exact line_app (i := 5) (xs := 41) Try.underlying24 hi hz0 hz1' hz2 rfl (by decide) (by decide) rfl rfl rfl rfl (by kernel_rfl) (Nat.lt_of_le_of_lt (by decide) hsz) (by kernel_rfl) rfl rfl hst (hst.fix (41, .slice p.sa k p.sc) (by simp)) ((HP5.out.s.below hst.below).head hkn) (fun e => by have := HC.out.2 e; omega) (by omega) (by omega) (fun a' w' hst' => ⟨⟨heap_lft HX5.out hst'.below, heap_lft HI5.out hst'.below⟩, Rest.same (d' := [12, 11, 10, 9, 6, 4, 3, 2, 1, 0, 5, 7]) (by rw [← hR]; exact s2T a' w' hst') (by kernel_rfl)⟩)
              have s1F : ∀ ac wo, LineSt (List.range' 37 15) a0 W5 28 4 [(41, .slice p.sa k p.sc), (43, saleV i s l d), (49, .slice (tailA p.sa p.sc k 4) (p.sn - k) (p.sc - k))] 44 (saleB i s l d) 0 (planB noPlan) 37 (0) (S) true false false ac wo → R 6 [12, 11, 10, 9, 6, 4, 3, 2, 1, 0] ac wo := by
                intro ac wo hst
                rw [hR]
                refine rest_split [5, 7] (by kernel_rfl) rfl (fun i9 hi9 => ?_)
                have hi9' : i9 = 5 ∨ i9 = 7 := by simpa using hi9
                clear hi9
                rcases hi9' with rfl | rfl
                · exact line_app (i := 5) (xs := 41) Try.underlying24 hi hz0 hz1' hz2 rfl (by decide) (by decide) rfl rfl rfl rfl (by kernel_rfl) (Nat.lt_of_le_of_lt (by decide) hsz) (by kernel_rfl) rfl rfl hst (hst.fix (41, .slice p.sa k p.sc) (by simp)) ((HP5.out.s.below hst.below).head hkn) (fun e => by have := HC.out.2 e; omega) (by omega) (by omega) (fun a' w' hst' => ⟨⟨heap_lft HX5.out hst'.below, heap_lft HI5.out hst'.below⟩, Rest.same (d' := [12, 11, 10, 9, 6, 4, 3, 2, 1, 0, 5]) (by rw [← hR]; exact s2F a' w' hst') (by kernel_rfl)⟩)
                · exact line_box9 (i := 7) rfl rfl rfl (by kernel_rfl) (Nat.lt_of_le_of_lt (by decide) hsz) (by kernel_rfl) rfl rfl hst (by have e43 := (hst.fix (43, saleV i s l d) (by simp)); have f43 := e43.eval; unfold At at e43; simp [go_sem, e43]; try rfl) (fun a' w' hst' => ⟨⟨heap_lft HX5.out hst'.below, heap_lft HI5.out hst'.below⟩, Rest.same (d' := [12, 11, 10, 9, 6, 4, 3, 2, 1, 0, 7]) (by rw [← hR]; exact s1T a' w' hst') (by kernel_rfl)⟩)
              have s0T : ∀ ac wo, LineSt (List.range' 37 15) a0 W5 28 4 [(41, .slice p.sa k p.sc), (43, saleV i s l d), (49, .slice (tailA p.sa p.sc k 4) (p.sn - k) (p.sc - k))] 44 (saleB i s l d) 0 (planB noPlan) 37 (0) (S) false true false ac wo → R 6 [12, 11, 10, 9, 6, 4, 3, 2, 1, 7] ac wo := by
                intro ac wo hst
                rw [hR]
                refine rest_split [0] (by kernel_rfl) rfl (fun i9 hi9 => ?_)
                have hi9' : i9 = 0 := by simpa using hi9
                clear hi9
                rcases hi9' with rfl
                · exact line_start (i := 0) rfl rfl rfl (by kernel_rfl) (Nat.lt_of_le_of_lt (by decide) hsz) (by kernel_rfl) rfl rfl hst (by simp [go_sem]; try rfl) S (fun a' w' hst' => ⟨⟨heap_lft HX5.out hst'.below, heap_lft HI5.out hst'.below⟩, Rest.same (d' := [12, 11, 10, 9, 6, 4, 3, 2, 1, 0, 7]) (by rw [← hR]; exact s1T a' w' hst') (by kernel_rfl)⟩)
              have s0F : ∀ ac wo, LineSt (List.range' 37 15) a0 W5 28 4 [(41, .slice p.sa k p.sc), (43, saleV i s l d), (49, .slice (tailA p.sa p.sc k 4) (p.sn - k) (p.sc - k))] 44 (saleB i s l d) 0 (planB noPlan) 37 (0) (S) false false false ac wo → R 7 [12, 11, 10, 9, 6, 4, 3, 2, 1] ac wo := by
                intro ac wo hst
                rw [hR]
                refine rest_split [0, 7] (by kernel_rfl) rfl (fun i9 hi9 => ?_)
                have hi9' : i9 = 0 ∨ i9 = 7 := by simpa using hi9
                clear hi9
                rcases hi9' with rfl | rfl
                · exact line_start (i := 0) rfl rfl rfl (by kernel_rfl) (Nat.lt_of_le_of_lt (by decide) hsz) (by kernel_rfl) rfl rfl hst (by simp [go_sem]; try rfl) S (fun a' w' hst' => ⟨⟨heap_lft HX5.out hst'.below, heap_lft HI5.out hst'.below⟩, Rest.same (d' := [12, 11, 10, 9, 6, 4, 3, 2, 1, 0]) (by rw [← hR]; exact s1F a' w' hst') (by kernel_rfl)⟩)
                · exact line_box9 (i := 7) rfl rfl rfl (by kernel_rfl) (Nat.lt_of_le_of_lt (by decide) hsz) (by kernel_rfl) rfl rfl hst (by have e43 := (hst.fix (43, saleV i s l d) (by simp)); have f43 := e43.eval; unfold At at e43; simp [go_sem, e43]; try rfl) (fun a' w' hst' => ⟨⟨heap_lft HX5.out hst'.below, heap_lft HI5.out hst'.below⟩, Rest.same (d' := [12, 11, 10, 9, 6, 4, 3, 2, 1, 7]) (by rw [← hR]; exact s0T a' w' hst') (by kernel_rfl)⟩)
              exact s0F _ _ ⟨hI, List.forall_mem_cons.2 ⟨n41, List.forall_mem_cons.2 ⟨n43, List.forall_mem_cons.2 ⟨n49, fun _ h => by cases h⟩⟩⟩, hq, ⟨none, 0, (fun h => by cases h), (fun h => by cases h), (fun h => by cases h)⟩⟩
            case rest =>
              obtain ⟨U, rfl⟩ : ∃ x, x = wc := ⟨_, rfl⟩
              obtain ⟨a4, c4, hq, ho, hbb⟩ := hcut
              have hs1 := HS1.out
              have hs2 := HS2.out
              have hs5 := HS5.out
              have HQU := Lib.hid hq
              have HYU : Hid (U.heap[w.heap.size + 1 + 1]? = some (planB noPlan)) := Lib.hid ((hbb.o _ (by omega) (by omega)).trans HY5.out)
              have HBU : Hid (Below w.heap.size w U) := Lib.hid (HB5.out.trans (hbb.b.mono (by omega)))
              have HOU : Hid (OwnPlan U W1.heap.size ⟨p.fr, a1, p.tn, c1, p.sd, p.ck, a2, p.an, c2, a4, p.sn + 1, c4, p.bu⟩ T (A) (Pure.insF S k (rowS i s l d))) := Lib.hid ⟨HO5.out.t.kept (fun x hx => hbb.o _ (HO5.out.t.lt x hx).2 (by have := (HO2.out.t.lt x hx).2; omega)), HO5.out.a.kept (fun x hx => hbb.o _ (HO5.out.a.lt x hx).2 (by have := (HO2.out.a.lt x hx).2; omega)), OwnNums.base ho (by omega)⟩
              have HPU := Lib.hid HOU.out.at
              clear hq ho hbb hs1 hs2 hs5
              have q0 := heap_cell HQU.out (j := 0) rfl
              have q1 := heap_cell HQU.out (j := 1) rfl
              have q2 := heap_cell HQU.out (j := 2) rfl
              have q3 := heap_cell HQU.out (j := 3) rfl
              have q4 := heap_cell HQU.out (j := 4) rfl
              have q5 := heap_cell HQU.out (j := 5) rfl
              have q6 := heap_cell HQU.out (j := 6) rfl
              go_wp2_with fail
              refine (rPlan_any ⟨p.fr, a1, p.tn, c1, p.sd, p.ck, a2, p.an, c2, a4, p.sn + 1, c4, p.bu⟩ T (A) (Pure.insF S k (rowS i s l d)) hn (by dsimp only; omega) (by dsimp only; omega) HBA.out (fun j hj => by
                simp only [Pure.insF]
                have hkn := HK.out.le
                have hxb := HXB.out
                split
                · exact HBG.out _ (by omega)
                · split
                  · unfold rowS; split <;> (try split) <;> (try split) <;> omega
                  · exact HBG.out _ (by dsimp only at hj; omega)) _ HPU.out).mono ?_
              rintro e3 N ⟨rfl, hb⟩
              have HYN := Lib.hid (heap_lft HYU.out hb)
              have HQN := Lib.hid (heap_lft HQU.out hb)
              have HON := Lib.hid (HOU.out.below hb)
              have HBN := Lib.hid (below_thn HBU.out hb)
              clear hb q0 q1 q2 q3 q4 q5 q6
              obtain ⟨r, hr⟩ : ∃ r, Pure.plan ⟨p.fr, a1, p.tn, c1, p.sd, p.ck, a2, p.an, c2, a4, p.sn + 1, c4, p.bu⟩ T (A) (Pure.insF S k (rowS i s l d)) = r := ⟨_, rfl⟩
              rw [hr]
              have HR : Hid (Pure.plan { p with sn := p.sn + 1 } T (A) (Pure.insF S k (rowS i s l d)) = r) := Lib.hid hr
              clear hr
              have q0 := heap_cell HQN.out (j := 0) rfl
              have q1 := heap_cell HQN.out (j := 1) rfl
              have q2 := heap_cell HQN.out (j := 2) rfl
              have q3 := heap_cell HQN.out (j := 3) rfl
              have q4 := heap_cell HQN.out (j := 4) rfl
              have q5 := heap_cell HQN.out (j := 5) rfl
              have q6 := heap_cell HQN.out (j := 6) rfl
              have y0 := heap_cell HYN.out (j := 0) rfl
              have y1 := heap_cell HYN.out (j := 1) rfl
              have y2 := heap_cell HYN.out (j := 2) rfl
              have y3 := heap_cell HYN.out (j := 3) rfl
              have y4 := heap_cell HYN.out (j := 4) rfl
              have y5 := heap_cell HYN.out (j := 5) rfl
              have y6 := heap_cell HYN.out (j := 6) rfl
              have f0 := heap_frozen HYN.out 0
              have f1 := heap_frozen HYN.out 1
              have f2 := heap_frozen HYN.out 2
              have f3 := heap_frozen HYN.out 3
              have f4 := heap_frozen HYN.out 4
              have f5 := heap_frozen HYN.out 5
              have f6 := heap_frozen HYN.out 6
              cases r
              · go_wp2_with fail
                refine bodyPost_ret (v := .tuple #[planV noPlan, .int .i64 43]) (by simp [results, Try.results7, go_sem, y0, y1, y2, y3, y4, y5, y6]; try rfl) rfl ⟨noPlan, 43, rfl, ?_, .inr (.inr ⟨HWT.out, H4.out, k, HK.out, .inl ⟨HR.out, rfl, rfl⟩⟩)⟩
                repeat (first | with_reducible exact HBN.out | with_reducible refine Below.setCell ?_ (by first | (simp; done) | (dsimp only; omega)) _)
              · go_wp2_with fail
                refine bodyPost_ret (v := .tuple #[planV (⟨p.fr, a1, p.tn, c1, p.sd, p.ck, a2, p.an, c2, a4, p.sn + 1, c4, p.bu⟩ : PlanX), .int .i64 0]) (by simp [results, Try.results7, go_sem, y0, y1, y2, y3, y4, y5, y6]; try rfl) rfl ⟨(⟨p.fr, a1, p.tn, c1, p.sd, p.ck, a2, p.an, c2, a4, p.sn + 1, c4, p.bu⟩ : PlanX), 0, rfl, ?_, .inr (.inr ⟨HWT.out, H4.out, k, HK.out, .inr ⟨HR.out, rfl, a1, c1, a2, c2, a4, c4, rfl, ?_⟩⟩)⟩
                repeat (first | with_reducible exact HBN.out | with_reducible refine Below.setCell ?_ (by first | (simp; done) | (dsimp only; omega)) _)
                have hs1 := HS1.out
                refine ⟨OwnNums.base (base := W1.heap.size) ?_ (by omega), OwnNums.base (base := W1.heap.size) ?_ (by omega), OwnNums.base (base := W1.heap.size) ?_ (by omega)⟩
                · repeat (first | with_reducible exact HON.out.t | with_reducible refine OwnNums.set ?_ (by dsimp only; omega) _)
                · repeat (first | with_reducible exact HON.out.a | with_reducible refine OwnNums.set ?_ (by dsimp only; omega) _)
                · repeat (first | with_reducible exact HON.out.s | with_reducible refine OwnNums.set ?_ (by dsimp only; omega) _)
          · have hkn : k < p.sn := (of_decide_eq_true HG.out).1
            have HKN := Lib.hid hkn
            clear hkn
            go_wp2_with fail
            go_roundw
            case rel => exact ⟨k + 1, HKN.out, by go_num, fun m hm => by
              by_cases e : m = k
              · subst e; exact (of_decide_eq_true HG.out).2
              · exact HLO.out m (by omega), HB5k.out⟩
            case measure => have := HKN.out; simp [intOf]; omega

end Go.Proofs.Ytknpdjbokgenpaa
