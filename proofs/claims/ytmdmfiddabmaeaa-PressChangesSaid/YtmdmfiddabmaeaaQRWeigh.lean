/-
  The contract of the specification's Weigh.
-/
import Derived.Test.YtmdmfiddabmaeaaQLine
namespace Go.Proofs.Ytmdmfiddabmaeaa
open Go.RowKit

set_option maxHeartbeats 8000000 in
set_option maxRecDepth 100000 in
theorem rWeigh_any (a : Option Addr) (n c : Nat) (b : Option Addr) (m d : Nat) (F G : Nat → Int) (x0 x1 x2 x3 x4 : Int) (hn : n ≤ 60) (hm : m ≤ 50) (hmd : m ≤ d) (hna : a = none → n = 0) (hnb : b = none → m = 0) (w : World) (hF : NumsAt w a (n * 4) F) (hG : NumsAt w b (m * 5) G) :
    Calls Try.prog 7 #[pressV a n c b m d, noteV x0 x1 x2 x3 x4] w (WeighOut n F m G x0 x1 x2 x3 x4 w) := by
  obtain ⟨W, hW⟩ : ∃ W, ((w.alloc (pressB a n c b m d)).alloc (noteB x0 x1 x2 x3 x4)).alloc (pressB none 0 0 none 0 0) = W := ⟨_, rfl⟩
  have HB : Hid (Below w.heap.size w W) := Lib.hid (by rw [← hW]; exact ((below_new _ _).alloc (by simp) _).alloc (by simp; omega) _)
  have HX : Hid (W.heap[w.heap.size]? = some (pressB a n c b m d)) := Lib.hid (by rw [← hW]; exact heap_up (heap_up (heap_top _ _ rfl) _) _)
  have HI : Hid (W.heap[w.heap.size + 1]? = some (noteB x0 x1 x2 x3 x4)) := Lib.hid (by rw [← hW]; exact heap_up (heap_top _ _ (by simp)) _)
  have HY : Hid (W.heap[w.heap.size + 1 + 1]? = some (pressB none 0 0 none 0 0)) := Lib.hid (by rw [← hW]; exact heap_top _ _ (by simp))
  have HSZ : Hid (W.heap.size = w.heap.size + 3) := Lib.hid (by rw [← hW]; simp)
  have HF := Lib.hid (hF.below HB.out)
  have HG := Lib.hid (hG.below HB.out)
  have HN := Lib.hid (And.intro hna hnb)
  have HMD := Lib.hid hmd
  clear hF hG hna hnb hmd
  have b0 := heap_cell HX.out (j := 0) rfl
  have b1 := heap_cell HX.out (j := 1) rfl
  go_enter Try.func7, Try.ntmps7
  go_upto_region 1 with fail
  try rw [hW]
  clear hW
  go_wp2_with fail
  refine (rPress_any a n c b m d F G hn (by omega) _ HF.out HG.out).mono ?_
  rintro e W1 ⟨rfl, hb⟩
  clear b0 b1
  have HX1 := Lib.hid (heap_lft HX.out hb)
  have HI1 := Lib.hid (heap_lft HI.out hb)
  have HY1 := Lib.hid (heap_lft HY.out hb)
  have HB1 := Lib.hid (below_thn HB.out hb)
  have HF1 := Lib.hid (HF.out.below hb)
  have HG1 := Lib.hid (HG.out.below hb)
  have HS1 : Hid (w.heap.size + 3 ≤ W1.heap.size) := Lib.hid (by have := hb.size; have := HSZ.out; omega)
  clear hb
  obtain ⟨r, hr⟩ : ∃ r, Pure.press n F m G = r := ⟨_, rfl⟩
  rw [hr]
  have HP := Lib.hid hr
  clear hr
  cases r
  · have y0 := heap_cell HY1.out (j := 0) rfl
    have y1 := heap_cell HY1.out (j := 1) rfl
    have f0 := heap_frozen HY1.out 0
    have f1 := heap_frozen HY1.out 1
    go_wp2_with fail
    refine bodyPost_ret (v := .tuple #[pressV none 0 0 none 0 0, .int .i64 20]) (by simp [results, Try.results7, go_sem, y0, y1]; try rfl) rfl ⟨none, 0, 0, none, 0, 0, 20, rfl, ?_, .inl ⟨by decide, rfl, rfl, rfl, rfl, rfl, rfl, .inl ⟨HP.out, rfl⟩⟩⟩
    repeat (first | with_reducible exact HB1.out | with_reducible refine Below.setCell ?_ (by first | (simp; done) | (dsimp only; omega)) _)
  · have hfew := Pure.press_few HP.out
    have b0 := heap_cell HX1.out (j := 0) rfl
    have b1 := heap_cell HX1.out (j := 1) rfl
    by_cases h4 : m = 30
    · have h4' : ((m : Int) == 30) = true := by rw [h4]; rfl
      have H4 := Lib.hid h4
      clear h4
      have y0 := heap_cell HY1.out (j := 0) rfl
      have y1 := heap_cell HY1.out (j := 1) rfl
      have f0 := heap_frozen HY1.out 0
      have f1 := heap_frozen HY1.out 1
      go_wp2_with fail
      refine bodyPost_ret (v := .tuple #[pressV none 0 0 none 0 0, .int .i64 9]) (by simp [results, Try.results7, go_sem, y0, y1]; try rfl) rfl ⟨none, 0, 0, none, 0, 0, 9, rfl, ?_, .inl ⟨by decide, rfl, rfl, rfl, rfl, rfl, rfl, .inr (.inl ⟨HP.out, by have := H4.out; omega, rfl⟩)⟩⟩
      repeat (first | with_reducible exact HB1.out | with_reducible refine Below.setCell ?_ (by first | (simp; done) | (dsimp only; omega)) _)
    · have hn4 : m < 30 := by omega
      have H4 := Lib.hid hn4
      have h4' : ((m : Int) == 30) = false := beq_eq_false_iff_ne.2 (by omega)
      clear h4 hn4
      go_wp2_with fail
      refine (twin_any a n c b m d F G hn (by omega) HN.out.1 HN.out.2 _ HF1.out HG1.out).mono ?_
      rintro e2 W2 ⟨a1, c1, a2, c2, rfl, ho1, ho2, hb⟩
      have HX2 := Lib.hid (heap_lft HX1.out hb)
      have HI2 := Lib.hid (heap_lft HI1.out hb)
      have HY2 := Lib.hid (heap_lft HY1.out hb)
      have HF2 := Lib.hid (HF1.out.below hb)
      have HG2 := Lib.hid (HG1.out.below hb)
      have HB2 := Lib.hid (below_thn HB1.out hb)
      have HO2 := Lib.hid ho1
      have HS2 : Hid (W1.heap.size ≤ W2.heap.size) := Lib.hid hb.size
      clear hb ho1 ho2 b0 b1
      go_upto_region 6 with fail
      obtain ⟨V, hV⟩ : ∃ V, W2.alloc (pressB a1 n c1 a2 m c2) = V := ⟨_, rfl⟩
      have hbv : Below W2.heap.size W2 V := by rw [← hV]; exact below_new _ _
      have HQV : Hid (V.heap[W2.heap.size]? = some (pressB a1 n c1 a2 m c2)) := Lib.hid (by rw [← hV]; exact heap_top _ _ rfl)
      have HXV := Lib.hid (heap_lft HX2.out hbv)
      have HIV := Lib.hid (heap_lft HI2.out hbv)
      have HYV := Lib.hid (heap_lft HY2.out hbv)
      have HBV := Lib.hid (below_thn HB2.out hbv)
      have HOV := Lib.hid (HO2.out.below hbv)
      have HFV := Lib.hid (HF2.out.below hbv)
      have HGV := Lib.hid (HG2.out.below hbv)
      try rw [hV]
      clear hV hbv
      go_wp2_with fail
      go_loopw [7] (fun s wr => ∃ k : Nat, k ≤ m ∧ s = .int .i64 k ∧ (∀ j, j < k → G (j * 5) < x0) ∧ Below V.heap.size V wr) (fun s _ => m - (intOf s).toNat)
      case atStart => exact ⟨0, Nat.zero_le _, rfl, fun j hj => by omega, Below.refl _ _⟩
      case round =>
        obtain ⟨k, hk, rfl, hlo, hb⟩ := hrel
        have HLO := Lib.hid hlo
        have HBk := Lib.hid hb
        have HXk := Lib.hid (heap_lft HXV.out hb)
        have HIk := Lib.hid (heap_lft HIV.out hb)
        clear hlo hb
        have z1 := heap_cell HXk.out (j := 1) rfl
        have i0 := heap_cell HIk.out (j := 0) rfl
        go_upto_region 7 with fail
        go_cut [34] from 19 to 36 (fun s wx => s = .bool (decide (k < m ∧ G (k * 5) < x0)) ∧ Below V.heap.size V wx)
        case first =>
          by_cases hk1 : k < m
          · obtain ⟨g, off, rfl, _⟩ := HGV.out (k * 5) (by omega)
            have n1 : (k : Int) < m := by omega
            have n2 : decide ((k : Int) < m) = true := decide_eq_true n1
            have p0 := (HGV.out.below HBk.out).at (show k * 5 < m * 5 by omega)
            have xx0 := among_below p0
            have xx2 := among_below z1
            have xx3 := among_below i0
            have HSt : Hid (Below wr.heap.size wr wr.drew) := Lib.hid (Below.refl _ _).drew
            have hne : Nonempty (Among (Below wr.heap.size wr)) := ⟨⟨_, HSt.out⟩⟩
            refine wp_region_class (Below wr.heap.size wr) (by kernel_rfl) (by kernel_rfl) HSt.out ?_
            repeat (go_big_quiet_step (fail))
            refine wpQuiet_nil ?_
            intro w8 hx
            have HB8 := Lib.hid (below_thn HBk.out (among_out hx))
            clear hx hne xx0 xx2 xx3 p0 z1 i0
            go_wp2_with fail
            go_meet
            exact ⟨by simp [hk1], HB8.out⟩
          · have n1 : ¬ (k : Int) < m := by omega
            have n2 : decide ((k : Int) < m) = false := decide_eq_false n1
            have xx2 := among_below z1
            have xx3 := among_below i0
            have HSt : Hid (Below wr.heap.size wr wr.drew) := Lib.hid (Below.refl _ _).drew
            have hne : Nonempty (Among (Below wr.heap.size wr)) := ⟨⟨_, HSt.out⟩⟩
            refine wp_region_class (Below wr.heap.size wr) (by kernel_rfl) (by kernel_rfl) HSt.out ?_
            repeat (go_big_quiet_step (fail))
            refine wpQuiet_nil ?_
            intro w8 hx
            have HB8 := Lib.hid (below_thn HBk.out (among_out hx))
            clear hx hne xx2 xx3 z1 i0
            go_wp2_with fail
            go_meet
            exact ⟨by simp [hk1], HB8.out⟩
        case rest =>
          obtain ⟨W5, rfl⟩ : ∃ x, x = wc := ⟨_, rfl⟩
          obtain ⟨rfl, hb⟩ := hcut
          have HB5k := Lib.hid hb
          clear hb z1 i0
          obtain ⟨g, hg⟩ : ∃ g, decide (k < m ∧ G (k * 5) < x0) = g := ⟨_, rfl⟩
          rw [hg]
          have HGG := Lib.hid hg
          clear hg
          cases g
          · have HX5 := Lib.hid (heap_lft HXV.out HB5k.out)
            have HI5 := Lib.hid (heap_lft HIV.out HB5k.out)
            have HY5 := Lib.hid (heap_lft HYV.out HB5k.out)
            have HQ5 := Lib.hid (heap_lft HQV.out HB5k.out)
            have HB5 := Lib.hid (below_thn HBV.out HB5k.out)
            have HG5 := Lib.hid (HGV.out.below HB5k.out)
            have HO5 := Lib.hid (HOV.out.below HB5k.out)
            have HS5 : Hid (W2.heap.size < W5.heap.size) := Lib.hid (Array.getElem?_eq_some_iff.1 HQ5.out).1
            have HK : Hid (IsPlace G x0 m k) := Lib.hid ⟨hk, HLO.out, fun j hj hjm => by
              have h1 := of_decide_eq_false HGG.out
              have h2 : ¬ (G (k * 5) < x0) := fun h4 => h1 ⟨by omega, h4⟩
              by_cases e : j = k
              · subst e; omega
              · have := Pure.press_sorted HP.out k j (by omega) hjm; omega⟩
            go_upto_region 9 with fail
            go_cut [] from 37 to 51 (fun wx => ∃ a4 c4, wx.heap[W2.heap.size]? = some (pressB a1 n c1 a4 (m + 1) c4) ∧ OwnNums wx W5.heap.size 29 5 a4 (m + 1) c4 (Pure.insF G k (rowN x0 x1 x2 x3 x4)) ∧ BelowBut W2.heap.size W2.heap.size W5 wx)
            case first =>
              rename_i J K' hJ hK'
              generalize hA : (Act.mk _ _ : Act) = a0
              have m2 : At a0 2 (.pointer (some ⟨w.heap.size, 0, none⟩)) := by rw [← hA]; rfl
              have m3 : At a0 3 (.pointer (some ⟨w.heap.size + 1, 0, none⟩)) := by rw [← hA]; rfl
              have m6 : At a0 6 (.pointer (some ⟨W2.heap.size, 0, none⟩)) := by rw [← hA]; rfl
              have m7 : At a0 7 (.int .i64 k) := by rw [← hA]; rfl
              have hsz : 51 < a0.tmps.size := by rw [← hA]; exact of_decide_eq_true (by kernel_rfl)
              have hfin : ∀ a' w', Kept (List.range' 37 15) a0 a' → (∃ a4 c4, w'.heap[W2.heap.size]? = some (pressB a1 n c1 a4 (m + 1) c4) ∧ OwnNums w' W5.heap.size 29 5 a4 (m + 1) c4 (Pure.insF G k (rowN x0 x1 x2 x3 x4)) ∧ BelowBut W2.heap.size W2.heap.size W5 w') → K' a' w' := by
                intro a' w' hI hL
                refine hK' _ _ (Met.intro (hJ _ _ ⟨a'.tmps.getD 37 undef, a'.tmps.getD 38 undef, a'.tmps.getD 39 undef, a'.tmps.getD 40 undef, a'.tmps.getD 41 undef, a'.tmps.getD 42 undef, a'.tmps.getD 43 undef, a'.tmps.getD 44 undef, a'.tmps.getD 45 undef, a'.tmps.getD 46 undef, a'.tmps.getD 47 undef, a'.tmps.getD 48 undef, a'.tmps.getD 49 undef, a'.tmps.getD 50 undef, a'.tmps.getD 51 undef, hL, hI.eq.trans ?_⟩))
                rw [← hA]
                kernel_rfl
              have hI : Kept (List.range' 37 15) a0 a0 := Kept.refl _ _
              clear hA hJ hK' J
              refine with_pan (fun d _ _ _ _ h => by cases d <;> exact h) ?_
              intro hpan
              refine wp_region_rest (fun z => z.heap[w.heap.size]? = some (pressB a n c b m d) ∧ z.heap[w.heap.size + 1]? = some (noteB x0 x1 x2 x3 x4)) (by kernel_rfl) ?_
              obtain ⟨wz, hwz⟩ : ∃ x, W5.drew = x := ⟨_, rfl⟩
              change Rest _ _ _ _ _ _ _ (W5.drew)
              rw [hwz]
              have hq : Below W5.heap.size W5 wz := by rw [← hwz]; exact (Below.refl _ _).drew
              clear hwz
              have hS : wz.heap[w.heap.size]? = some (pressB a n c b m d) ∧ wz.heap[w.heap.size + 1]? = some (noteB x0 x1 x2 x3 x4) := ⟨heap_lft HX5.out hq, heap_lft HI5.out hq⟩
              have hkn := HK.out.le
              have hcn := HMD.out
              have hn4 := H4.out
              refine rest_take (k := 1) (d := 38) (v := .pointer (some ⟨w.heap.size, 1, none⟩)) hI rfl rfl (by kernel_rfl) (Nat.lt_of_le_of_lt (by decide) hsz) (by kernel_rfl) hpan (by kernel_rfl) hS (wanted_free rfl) (fun z hz => by have n2 := hI.at m2 (by kernel_rfl); have e2 := n2; have f2 := n2.eval; unfold At at e2; simp [go_sem, BigFrame.eval_const, BigFrame.eval_global, BigFrame.eval_func, e2, f2]) (fun a' hI' n38' hk => ?_)
              have n38 := n38'
              replace hI := hI'
              clear hk hI' n38'
              obtain ⟨act9, rfl⟩ : ∃ x, x = a' := ⟨_, rfl⟩
              refine rest_take (k := 2) (d := 39) (v := .slice b m d) hI rfl rfl (by kernel_rfl) (Nat.lt_of_le_of_lt (by decide) hsz) (by kernel_rfl) hpan (by kernel_rfl) hS (wanted_free rfl) (fun z hz => by have e38 := n38; have f38 := n38.eval; unfold At at e38; have k1 := heap_cell hz.1 (j := 1) rfl; simp [go_sem, BigFrame.eval_const, BigFrame.eval_global, BigFrame.eval_func, e38, f38, k1]) (fun a' hI' n39' hk => ?_)
              replace n38 := hk _ _ n38 rfl
              have n39 := n39'
              replace hI := hI'
              clear hk hI' n39'
              obtain ⟨act9, rfl⟩ : ∃ x, x = a' := ⟨_, rfl⟩
              clear n38
              refine rest_take (k := 3) (d := 40) (v := .int .i64 k) hI rfl rfl (by kernel_rfl) (Nat.lt_of_le_of_lt (by decide) hsz) (by kernel_rfl) hpan (by kernel_rfl) hS (wanted_free rfl) (fun z hz => by have n7 := hI.at m7 (by kernel_rfl); have e7 := n7; have f7 := n7.eval; unfold At at e7; simp [go_sem, BigFrame.eval_const, BigFrame.eval_global, BigFrame.eval_func, e7, f7]) (fun a' hI' n40' hk => ?_)
              replace n39 := hk _ _ n39 rfl
              have n40 := n40'
              replace hI := hI'
              clear hk hI' n40'
              obtain ⟨act9, rfl⟩ : ∃ x, x = a' := ⟨_, rfl⟩
              refine rest_take (k := 4) (d := 41) (v := .slice b k d) hI rfl rfl (by kernel_rfl) (Nat.lt_of_le_of_lt (by decide) hsz) (by kernel_rfl) hpan (by kernel_rfl) hS (wanted_free rfl) (fun z hz => by have e39 := n39; have f39 := n39.eval; unfold At at e39; have e40 := n40; have f40 := n40.eval; unfold At at e40; exact exec_slice_hi 23 29 (.tmp 39) (.tmp 40) 5 rfl Try.underlying23 (fun w => by kernel_rfl) f39 f40 (by omega)) (fun a' hI' n41' hk => ?_)
              replace n39 := hk _ _ n39 rfl
              replace n40 := hk _ _ n40 rfl
              have n41 := n41'
              replace hI := hI'
              clear hk hI' n41'
              obtain ⟨act9, rfl⟩ : ∃ x, x = a' := ⟨_, rfl⟩
              clear n39
              clear n40
              refine rest_take (k := 6) (d := 43) (v := noteV x0 x1 x2 x3 x4) hI rfl rfl (by kernel_rfl) (Nat.lt_of_le_of_lt (by decide) hsz) (by kernel_rfl) hpan (by kernel_rfl) hS (wanted_free rfl) (fun z hz => by have n3 := hI.at m3 (by kernel_rfl); have e3 := n3; have f3 := n3.eval; unfold At at e3; have k0 := heap_cell hz.2 (j := 0) rfl; have k1 := heap_cell hz.2 (j := 1) rfl; have k2 := heap_cell hz.2 (j := 2) rfl; have k3 := heap_cell hz.2 (j := 3) rfl; have k4 := heap_cell hz.2 (j := 4) rfl; simp [go_sem, BigFrame.eval_const, BigFrame.eval_global, BigFrame.eval_func, e3, f3, k0, k1, k2, k3, k4]) (fun a' hI' n43' hk => ?_)
              replace n41 := hk _ _ n41 rfl
              have n43 := n43'
              replace hI := hI'
              clear hk hI' n43'
              obtain ⟨act9, rfl⟩ : ∃ x, x = a' := ⟨_, rfl⟩
              refine rest_take (k := 9) (d := 46) (v := .pointer (some ⟨w.heap.size, 1, none⟩)) hI rfl rfl (by kernel_rfl) (Nat.lt_of_le_of_lt (by decide) hsz) (by kernel_rfl) hpan (by kernel_rfl) hS (wanted_free rfl) (fun z hz => by have n2 := hI.at m2 (by kernel_rfl); have e2 := n2; have f2 := n2.eval; unfold At at e2; simp [go_sem, BigFrame.eval_const, BigFrame.eval_global, BigFrame.eval_func, e2, f2]) (fun a' hI' n46' hk => ?_)
              replace n41 := hk _ _ n41 rfl
              replace n43 := hk _ _ n43 rfl
              have n46 := n46'
              replace hI := hI'
              clear hk hI' n46'
              obtain ⟨act9, rfl⟩ : ∃ x, x = a' := ⟨_, rfl⟩
              refine rest_take (k := 10) (d := 47) (v := .slice b m d) hI rfl rfl (by kernel_rfl) (Nat.lt_of_le_of_lt (by decide) hsz) (by kernel_rfl) hpan (by kernel_rfl) hS (wanted_free rfl) (fun z hz => by have e46 := n46; have f46 := n46.eval; unfold At at e46; have k1 := heap_cell hz.1 (j := 1) rfl; simp [go_sem, BigFrame.eval_const, BigFrame.eval_global, BigFrame.eval_func, e46, f46, k1]) (fun a' hI' n47' hk => ?_)
              replace n41 := hk _ _ n41 rfl
              replace n43 := hk _ _ n43 rfl
              replace n46 := hk _ _ n46 rfl
              have n47 := n47'
              replace hI := hI'
              clear hk hI' n47'
              obtain ⟨act9, rfl⟩ : ∃ x, x = a' := ⟨_, rfl⟩
              clear n46
              refine rest_take (k := 11) (d := 48) (v := .int .i64 k) hI rfl rfl (by kernel_rfl) (Nat.lt_of_le_of_lt (by decide) hsz) (by kernel_rfl) hpan (by kernel_rfl) hS (wanted_free rfl) (fun z hz => by have n7 := hI.at m7 (by kernel_rfl); have e7 := n7; have f7 := n7.eval; unfold At at e7; simp [go_sem, BigFrame.eval_const, BigFrame.eval_global, BigFrame.eval_func, e7, f7]) (fun a' hI' n48' hk => ?_)
              replace n41 := hk _ _ n41 rfl
              replace n43 := hk _ _ n43 rfl
              replace n47 := hk _ _ n47 rfl
              have n48 := n48'
              replace hI := hI'
              clear hk hI' n48'
              obtain ⟨act9, rfl⟩ : ∃ x, x = a' := ⟨_, rfl⟩
              refine rest_take (k := 12) (d := 49) (v := .slice (tailA b d k 5) (m - k) (d - k)) hI rfl rfl (by kernel_rfl) (Nat.lt_of_le_of_lt (by decide) hsz) (by kernel_rfl) hpan (by kernel_rfl) hS (wanted_free rfl) (fun z hz => by have e47 := n47; have f47 := n47.eval; unfold At at e47; have e48 := n48; have f48 := n48.eval; unfold At at e48; exact exec_slice_lo 23 29 (.tmp 47) (.tmp 48) 5 rfl Try.underlying23 (fun w => by kernel_rfl) f47 f48 (by omega)) (fun a' hI' n49' hk => ?_)
              replace n41 := hk _ _ n41 rfl
              replace n43 := hk _ _ n43 rfl
              replace n47 := hk _ _ n47 rfl
              replace n48 := hk _ _ n48 rfl
              have n49 := n49'
              replace hI := hI'
              clear hk hI' n49'
              obtain ⟨act9, rfl⟩ : ∃ x, x = a' := ⟨_, rfl⟩
              clear n47
              clear n48
              obtain ⟨i0, hi, hz0, hz1', hz2⟩ := infoNote
              refine rest_name (fun R hR => ?_)
              have hnk : 0 + k + 1 + (m - k) = m + 1 := by omega
              have s4T : ∀ ac wo, LineSt (List.range' 37 15) a0 W5 29 5 [(41, .slice b k d), (43, noteV x0 x1 x2 x3 x4), (49, .slice (tailA b d k 5) (m - k) (d - k))] 44 (noteB x0 x1 x2 x3 x4) 0 (pressB none 0 0 none 0 0) 50 (0 + k + 1 + (m - k)) (joinF (joinF (joinF G (0 * 5) G) ((0 + k) * 5) (rowN x0 x1 x2 x3 x4)) ((0 + k + 1) * 5) (fun q => G (k * 5 + q))) true true false ac wo → R 2 [12, 11, 10, 9, 6, 4, 3, 2, 1, 0, 5, 8, 13, 7] ac wo := by
                intro ac wo hst
                rw [hR]
                obtain ⟨sx, cp, h1, h2, h3⟩ := hst.row
                have ho : OwnNums wo W5.heap.size 29 5 sx (m + 1) cp (Pure.insF G k (rowN x0 x1 x2 x3 x4)) := by
                  have g := (h1 rfl).2
                  rw [hnk] at g
                  refine g.congr (fun q hq => ?_)
                  simp only [joinF, Pure.insF, Nat.zero_add, Nat.zero_mul, Nat.not_lt_zero, if_false, Nat.sub_zero]
                  by_cases g1 : q < k * 5
                  · rw [if_pos (by omega), if_pos g1, if_pos g1]
                  · by_cases g2 : q < k * 5 + 5
                    · rw [if_pos (by omega), if_neg g1, if_neg g1, if_pos g2]
                    · rw [if_neg (by omega), if_neg g1, if_neg g2]
                      congr 1
                      omega
                have n50 := (h1 rfl).1
                rw [hnk] at n50
                have hI := hst.kept
                have hS : wo.heap[w.heap.size]? = some (pressB a n c b m d) ∧ wo.heap[w.heap.size + 1]? = some (noteB x0 x1 x2 x3 x4) := ⟨heap_lft HX5.out hst.below, heap_lft HI5.out hst.below⟩
                have hs1 := HS1.out
                have hs2 := HS2.out
                have hs5 := HS5.out
                have hqo := heap_lft HQ5.out hst.below
                obtain ⟨Z, hZ⟩ : ∃ Z, wo.setCell ⟨W2.heap.size, 1, none⟩ (.slice sx (m + 1) cp) = Z := ⟨_, rfl⟩
                have hqZ : Z.heap[W2.heap.size]? = some (pressB a1 n c1 sx (m + 1) cp) := by rw [← hZ]; exact heap_set hqo 1 _
                have hoZ : OwnNums Z W5.heap.size 29 5 sx (m + 1) cp (Pure.insF G k (rowN x0 x1 x2 x3 x4)) := by rw [← hZ]; exact ho.set (by dsimp only; omega) _
                have hbZ : BelowBut W2.heap.size W2.heap.size W5 Z := by rw [← hZ]; exact BelowBut.set ⟨hst.below.mono (by omega), fun i hi hne => hst.below.block i hi⟩ (Nat.le_refl _) _ _
                have hSZ : Z.heap[w.heap.size]? = some (pressB a n c b m d) ∧ Z.heap[w.heap.size + 1]? = some (noteB x0 x1 x2 x3 x4) := by rw [← hZ]; exact ⟨(setCell_other (by dsimp only; omega)).trans hS.1, (setCell_other (by dsimp only; omega)).trans hS.2⟩
                refine rest_take (k := 14) (d := 51) (v := .pointer (some ⟨W2.heap.size, 1, none⟩)) hI rfl rfl (by kernel_rfl) (Nat.lt_of_le_of_lt (by decide) hsz) (by kernel_rfl) hpan (by kernel_rfl) hS (wanted_free rfl) (fun z hz => by have n6 := hI.at m6 (by kernel_rfl); have e6 := n6; have f6 := n6.eval; unfold At at e6; simp [go_sem, BigFrame.eval_const, BigFrame.eval_global, BigFrame.eval_func, e6, f6]) (fun a' hI' n51' hk => ?_)
                replace n50 := hk _ _ n50 rfl
                have n51 := n51'
                replace hI := hI'
                clear hk hI' n51'
                obtain ⟨act9, rfl⟩ : ∃ x, x = a' := ⟨_, rfl⟩
                refine rest_only (k := 15) (by kernel_rfl) (op_store (k := 15) rfl rfl (wanted_free rfl) (by have e50 := n50; have f50 := n50.eval; unfold At at e50; have e51 := n51; have f51 := n51.eval; unfold At at e51; have k0 := heap_cell hqo (j := 1) rfl; have f0 := heap_frozen hqo 1; simp [go_sem, BigFrame.eval_const, BigFrame.eval_global, BigFrame.eval_func, e50, f50, e51, f51, k0, f0]; try rfl) ⟨by rw [hZ]; exact hSZ, ?_⟩)
                refine rest_done (by kernel_rfl) ?_
                rw [hZ]
                exact hfin _ _ hI ⟨sx, cp, hqZ, hoZ, hbZ⟩
              have s3T : ∀ ac wo, LineSt (List.range' 37 15) a0 W5 29 5 [(41, .slice b k d), (43, noteV x0 x1 x2 x3 x4), (49, .slice (tailA b d k 5) (m - k) (d - k))] 44 (noteB x0 x1 x2 x3 x4) 0 (pressB none 0 0 none 0 0) 45 (0 + k + 1) (joinF (joinF G (0 * 5) G) ((0 + k) * 5) (rowN x0 x1 x2 x3 x4)) true true false ac wo → R 3 [12, 11, 10, 9, 6, 4, 3, 2, 1, 0, 5, 8, 7] ac wo := by
                intro ac wo hst
                rw [hR]
                refine rest_split [13] (by kernel_rfl) rfl (fun i9 hi9 => ?_)
                have hi9' : i9 = 13 := by simpa using hi9
                clear hi9
                rcases hi9' with rfl
                · exact line_app (i := 13) (xs := 49) Try.underlying23 hi hz0 hz1' hz2 rfl (by decide) (by decide) rfl rfl rfl rfl (by kernel_rfl) (Nat.lt_of_le_of_lt (by decide) hsz) (by kernel_rfl) rfl rfl hst (hst.fix (49, .slice (tailA b d k 5) (m - k) (d - k)) (by simp)) ((HG5.out.below hst.below).tail hkn hcn) (fun e => by have := HN.out.2 (tailA_none e); omega) (by omega) (by omega) (fun a' w' hst' => ⟨⟨heap_lft HX5.out hst'.below, heap_lft HI5.out hst'.below⟩, Rest.same (d' := [12, 11, 10, 9, 6, 4, 3, 2, 1, 0, 5, 8, 13, 7]) (by rw [← hR]; exact s4T a' w' hst') (by kernel_rfl)⟩)
              have s2T : ∀ ac wo, LineSt (List.range' 37 15) a0 W5 29 5 [(41, .slice b k d), (43, noteV x0 x1 x2 x3 x4), (49, .slice (tailA b d k 5) (m - k) (d - k))] 44 (noteB x0 x1 x2 x3 x4) 0 (pressB none 0 0 none 0 0) 42 (0 + k) (joinF G (0 * 5) G) true true false ac wo → R 4 [12, 11, 10, 9, 6, 4, 3, 2, 1, 0, 5, 7] ac wo := by
                intro ac wo hst
                rw [hR]
                refine rest_split [8] (by kernel_rfl) rfl (fun i9 hi9 => ?_)
                have hi9' : i9 = 8 := by simpa using hi9
                clear hi9
                rcases hi9' with rfl
                · obtain ⟨_, _, _, hb9, _⟩ := hst.row
                  obtain ⟨B, b1, b2, b3, b4⟩ := hb9 rfl
                  exact line_app (i := 8) (xs := 44) Try.underlying23 hi hz0 hz1' hz2 rfl (by decide) (by decide) rfl rfl rfl rfl (by kernel_rfl) (Nat.lt_of_le_of_lt (by decide) hsz) (by kernel_rfl) rfl rfl hst b1 (nums_row5 b4) (fun e => by cases e) (by omega) (by omega) (fun a' w' hst' => ⟨⟨heap_lft HX5.out hst'.below, heap_lft HI5.out hst'.below⟩, Rest.same (d' := [12, 11, 10, 9, 6, 4, 3, 2, 1, 0, 5, 8, 7]) (by rw [← hR]; exact s3T a' w' hst') (by kernel_rfl)⟩)
              have s2F : ∀ ac wo, LineSt (List.range' 37 15) a0 W5 29 5 [(41, .slice b k d), (43, noteV x0 x1 x2 x3 x4), (49, .slice (tailA b d k 5) (m - k) (d - k))] 44 (noteB x0 x1 x2 x3 x4) 0 (pressB none 0 0 none 0 0) 42 (0 + k) (joinF G (0 * 5) G) true false false ac wo → R 5 [12, 11, 10, 9, 6, 4, 3, 2, 1, 0, 5] ac wo := by
                intro ac wo hst
                rw [hR]
                refine rest_split [7] (by kernel_rfl) rfl (fun i9 hi9 => ?_)
                have hi9' : i9 = 7 := by simpa using hi9
                clear hi9
                rcases hi9' with rfl
                · exact line_box9 (i := 7) rfl rfl rfl (by kernel_rfl) (Nat.lt_of_le_of_lt (by decide) hsz) (by kernel_rfl) rfl rfl hst (by have e43 := (hst.fix (43, noteV x0 x1 x2 x3 x4) (by simp)); have f43 := e43.eval; unfold At at e43; simp [go_sem, BigFrame.eval_const, BigFrame.eval_global, BigFrame.eval_func, e43, f43]; try rfl) (fun a' w' hst' => ⟨⟨heap_lft HX5.out hst'.below, heap_lft HI5.out hst'.below⟩, Rest.same (d' := [12, 11, 10, 9, 6, 4, 3, 2, 1, 0, 5, 7]) (by rw [← hR]; exact s2T a' w' hst') (by kernel_rfl)⟩)
              have s1T : ∀ ac wo, LineSt (List.range' 37 15) a0 W5 29 5 [(41, .slice b k d), (43, noteV x0 x1 x2 x3 x4), (49, .slice (tailA b d k 5) (m - k) (d - k))] 44 (noteB x0 x1 x2 x3 x4) 0 (pressB none 0 0 none 0 0) 37 (0) (G) true true false ac wo → R 5 [12, 11, 10, 9, 6, 4, 3, 2, 1, 0, 7] ac wo := by
                intro ac wo hst
                rw [hR]
                refine rest_split [5] (by kernel_rfl) rfl (fun i9 hi9 => ?_)
                have hi9' : i9 = 5 := by simpa using hi9
                clear hi9
                rcases hi9' with rfl
                · exact line_app (i := 5) (xs := 41) Try.underlying23 hi hz0 hz1' hz2 rfl (by decide) (by decide) rfl rfl rfl rfl (by kernel_rfl) (Nat.lt_of_le_of_lt (by decide) hsz) (by kernel_rfl) rfl rfl hst (hst.fix (41, .slice b k d) (by simp)) ((HG5.out.below hst.below).head hkn) (fun e => by have := HN.out.2 e; omega) (by omega) (by omega) (fun a' w' hst' => ⟨⟨heap_lft HX5.out hst'.below, heap_lft HI5.out hst'.below⟩, Rest.same (d' := [12, 11, 10, 9, 6, 4, 3, 2, 1, 0, 5, 7]) (by rw [← hR]; exact s2T a' w' hst') (by kernel_rfl)⟩)
              have s1F : ∀ ac wo, LineSt (List.range' 37 15) a0 W5 29 5 [(41, .slice b k d), (43, noteV x0 x1 x2 x3 x4), (49, .slice (tailA b d k 5) (m - k) (d - k))] 44 (noteB x0 x1 x2 x3 x4) 0 (pressB none 0 0 none 0 0) 37 (0) (G) true false false ac wo → R 6 [12, 11, 10, 9, 6, 4, 3, 2, 1, 0] ac wo := by
                intro ac wo hst
                rw [hR]
                refine rest_split [5, 7] (by kernel_rfl) rfl (fun i9 hi9 => ?_)
                have hi9' : i9 = 5 ∨ i9 = 7 := by simpa using hi9
                clear hi9
                rcases hi9' with rfl | rfl
                · exact line_app (i := 5) (xs := 41) Try.underlying23 hi hz0 hz1' hz2 rfl (by decide) (by decide) rfl rfl rfl rfl (by kernel_rfl) (Nat.lt_of_le_of_lt (by decide) hsz) (by kernel_rfl) rfl rfl hst (hst.fix (41, .slice b k d) (by simp)) ((HG5.out.below hst.below).head hkn) (fun e => by have := HN.out.2 e; omega) (by omega) (by omega) (fun a' w' hst' => ⟨⟨heap_lft HX5.out hst'.below, heap_lft HI5.out hst'.below⟩, Rest.same (d' := [12, 11, 10, 9, 6, 4, 3, 2, 1, 0, 5]) (by rw [← hR]; exact s2F a' w' hst') (by kernel_rfl)⟩)
                · exact line_box9 (i := 7) rfl rfl rfl (by kernel_rfl) (Nat.lt_of_le_of_lt (by decide) hsz) (by kernel_rfl) rfl rfl hst (by have e43 := (hst.fix (43, noteV x0 x1 x2 x3 x4) (by simp)); have f43 := e43.eval; unfold At at e43; simp [go_sem, BigFrame.eval_const, BigFrame.eval_global, BigFrame.eval_func, e43, f43]; try rfl) (fun a' w' hst' => ⟨⟨heap_lft HX5.out hst'.below, heap_lft HI5.out hst'.below⟩, Rest.same (d' := [12, 11, 10, 9, 6, 4, 3, 2, 1, 0, 7]) (by rw [← hR]; exact s1T a' w' hst') (by kernel_rfl)⟩)
              have s0T : ∀ ac wo, LineSt (List.range' 37 15) a0 W5 29 5 [(41, .slice b k d), (43, noteV x0 x1 x2 x3 x4), (49, .slice (tailA b d k 5) (m - k) (d - k))] 44 (noteB x0 x1 x2 x3 x4) 0 (pressB none 0 0 none 0 0) 37 (0) (G) false true false ac wo → R 6 [12, 11, 10, 9, 6, 4, 3, 2, 1, 7] ac wo := by
                intro ac wo hst
                rw [hR]
                refine rest_split [0] (by kernel_rfl) rfl (fun i9 hi9 => ?_)
                have hi9' : i9 = 0 := by simpa using hi9
                clear hi9
                rcases hi9' with rfl
                · exact line_start (i := 0) rfl rfl rfl (by kernel_rfl) (Nat.lt_of_le_of_lt (by decide) hsz) (by kernel_rfl) rfl rfl hst (by simp [go_sem, BigFrame.eval_const, BigFrame.eval_global, BigFrame.eval_func]; try rfl) G (fun a' w' hst' => ⟨⟨heap_lft HX5.out hst'.below, heap_lft HI5.out hst'.below⟩, Rest.same (d' := [12, 11, 10, 9, 6, 4, 3, 2, 1, 0, 7]) (by rw [← hR]; exact s1T a' w' hst') (by kernel_rfl)⟩)
              have s0F : ∀ ac wo, LineSt (List.range' 37 15) a0 W5 29 5 [(41, .slice b k d), (43, noteV x0 x1 x2 x3 x4), (49, .slice (tailA b d k 5) (m - k) (d - k))] 44 (noteB x0 x1 x2 x3 x4) 0 (pressB none 0 0 none 0 0) 37 (0) (G) false false false ac wo → R 7 [12, 11, 10, 9, 6, 4, 3, 2, 1] ac wo := by
                intro ac wo hst
                rw [hR]
                refine rest_split [0, 7] (by kernel_rfl) rfl (fun i9 hi9 => ?_)
                have hi9' : i9 = 0 ∨ i9 = 7 := by simpa using hi9
                clear hi9
                rcases hi9' with rfl | rfl
                · exact line_start (i := 0) rfl rfl rfl (by kernel_rfl) (Nat.lt_of_le_of_lt (by decide) hsz) (by kernel_rfl) rfl rfl hst (by simp [go_sem, BigFrame.eval_const, BigFrame.eval_global, BigFrame.eval_func]; try rfl) G (fun a' w' hst' => ⟨⟨heap_lft HX5.out hst'.below, heap_lft HI5.out hst'.below⟩, Rest.same (d' := [12, 11, 10, 9, 6, 4, 3, 2, 1, 0]) (by rw [← hR]; exact s1F a' w' hst') (by kernel_rfl)⟩)
                · exact line_box9 (i := 7) rfl rfl rfl (by kernel_rfl) (Nat.lt_of_le_of_lt (by decide) hsz) (by kernel_rfl) rfl rfl hst (by have e43 := (hst.fix (43, noteV x0 x1 x2 x3 x4) (by simp)); have f43 := e43.eval; unfold At at e43; simp [go_sem, BigFrame.eval_const, BigFrame.eval_global, BigFrame.eval_func, e43, f43]; try rfl) (fun a' w' hst' => ⟨⟨heap_lft HX5.out hst'.below, heap_lft HI5.out hst'.below⟩, Rest.same (d' := [12, 11, 10, 9, 6, 4, 3, 2, 1, 7]) (by rw [← hR]; exact s0T a' w' hst') (by kernel_rfl)⟩)
              exact s0F _ _ ⟨hI, List.forall_mem_cons.2 ⟨n41, List.forall_mem_cons.2 ⟨n43, List.forall_mem_cons.2 ⟨n49, fun _ h => by cases h⟩⟩⟩, hq, ⟨none, 0, (fun h => by cases h), (fun h => by cases h), (fun h => by cases h)⟩⟩
            case rest =>
              obtain ⟨U, rfl⟩ : ∃ x, x = wc := ⟨_, rfl⟩
              obtain ⟨a4, c4, hq, ho, hbb⟩ := hcut
              have hs1 := HS1.out
              have hs2 := HS2.out
              have hs5 := HS5.out
              have HQU := Lib.hid hq
              have HYU : Hid (U.heap[w.heap.size + 1 + 1]? = some (pressB none 0 0 none 0 0)) := Lib.hid ((hbb.o _ (by omega) (by omega)).trans HY5.out)
              have HBU : Hid (Below w.heap.size w U) := Lib.hid (HB5.out.trans (hbb.b.mono (by omega)))
              have HO1U : Hid (OwnNums U W1.heap.size 45 4 a1 n c1 F) := Lib.hid (HO5.out.kept (fun x hx => hbb.o _ (HO5.out.lt x hx).2 (by have := (HO2.out.lt x hx).2; omega)))
              have HO4U : Hid (OwnNums U W1.heap.size 29 5 a4 (m + 1) c4 (Pure.insF G k (rowN x0 x1 x2 x3 x4))) := Lib.hid (OwnNums.base ho (by omega))
              clear hq ho hbb hs1 hs2 hs5
              have q0 := heap_cell HQU.out (j := 0) rfl
              have q1 := heap_cell HQU.out (j := 1) rfl
              go_wp2_with fail
              refine (rPress_any a1 n c1 a4 (m + 1) c4 F (Pure.insF G k (rowN x0 x1 x2 x3 x4)) hn (by omega) _ HO1U.out.nums HO4U.out.nums).mono ?_
              rintro e3 N ⟨rfl, hb⟩
              have HYN := Lib.hid (heap_lft HYU.out hb)
              have HQN := Lib.hid (heap_lft HQU.out hb)
              have HO1N := Lib.hid (HO1U.out.below hb)
              have HO4N := Lib.hid (HO4U.out.below hb)
              have HBN := Lib.hid (below_thn HBU.out hb)
              clear hb q0 q1
              obtain ⟨r, hr⟩ : ∃ r, Pure.press n F (m + 1) (Pure.insF G k (rowN x0 x1 x2 x3 x4)) = r := ⟨_, rfl⟩
              rw [hr]
              have HR := Lib.hid hr
              clear hr
              have hs1 := HS1.out
              cases r
              · have y0 := heap_cell HYN.out (j := 0) rfl
                have y1 := heap_cell HYN.out (j := 1) rfl
                have f0 := heap_frozen HYN.out 0
                have f1 := heap_frozen HYN.out 1
                go_wp2_with fail
                refine bodyPost_ret (v := .tuple #[pressV none 0 0 none 0 0, .int .i64 21]) (by simp [results, Try.results7, go_sem, y0, y1]; try rfl) rfl ⟨none, 0, 0, none, 0, 0, 21, rfl, ?_, .inl ⟨by decide, rfl, rfl, rfl, rfl, rfl, rfl, .inr (.inr ⟨HP.out, H4.out, rfl, k, HK.out, HR.out⟩)⟩⟩
                repeat (first | with_reducible exact HBN.out | with_reducible refine Below.setCell ?_ (by first | (simp; done) | (dsimp only; omega)) _)
              · have q0 := heap_cell HQN.out (j := 0) rfl
                have q1 := heap_cell HQN.out (j := 1) rfl
                have y0 := heap_cell HYN.out (j := 0) rfl
                have y1 := heap_cell HYN.out (j := 1) rfl
                have f0 := heap_frozen HYN.out 0
                have f1 := heap_frozen HYN.out 1
                go_wp2_with fail
                refine bodyPost_ret (v := .tuple #[pressV a1 n c1 a4 (m + 1) c4, .int .i64 0]) (by simp [results, Try.results7, go_sem, y0, y1]; try rfl) rfl ⟨a1, n, c1, a4, m + 1, c4, 0, rfl, ?_, .inr ⟨rfl, rfl, rfl, HP.out, H4.out, k, HK.out, HR.out, ?_, ?_⟩⟩
                · repeat (first | with_reducible exact HBN.out | with_reducible refine Below.setCell ?_ (by first | (simp; done) | (dsimp only; omega)) _)
                · refine OwnNums.base (base := W1.heap.size) ?_ (by omega)
                  repeat (first | with_reducible exact HO1N.out | with_reducible refine OwnNums.set ?_ (by first | (simp; omega) | (dsimp only; omega)) _)
                · refine OwnNums.base (base := W1.heap.size) ?_ (by omega)
                  repeat (first | with_reducible exact HO4N.out | with_reducible refine OwnNums.set ?_ (by first | (simp; omega) | (dsimp only; omega)) _)
          · have hkn : k < m := (of_decide_eq_true HGG.out).1
            have HKN := Lib.hid hkn
            clear hkn
            go_wp2_with fail
            go_roundw
            case rel => exact ⟨k + 1, HKN.out, by go_num, fun j hj => by
              by_cases e : j = k
              · subst e; exact (of_decide_eq_true HGG.out).2
              · exact HLO.out j (by omega), HB5k.out⟩
            case measure => have := HKN.out; simp [intOf]; omega

end Go.Proofs.Ytmdmfiddabmaeaa
