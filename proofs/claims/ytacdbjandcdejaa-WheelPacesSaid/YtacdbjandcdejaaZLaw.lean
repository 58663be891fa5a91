/-
  WheelPaces: the law's walk.
-/
import Derived.Test.YtacdbjandcdejaaZFin
namespace Go.Proofs.Ytacdbjandcdejaa
open Go.RowKit

set_option maxHeartbeats 40000000 in
set_option maxRecDepth 100000 in
theorem paces_walk (p : PlanX) (T A S : Nat → Int) (wa : Option Addr) (m wk : Nat) (X : Nat → Int) (a : Option Addr) (n c : Nat) (F : Nat → Int) (la : Option Addr) (ln lc : Nat) (L : Nat → Int) (b : Int) (hbA : ∀ j, j < p.an * 2 → A j ≤ 9223372036854775807) (hbS : ∀ j, j < p.sn * 4 → S j ≤ 9223372036854775807) (hwnil : wa = none → m = 0) (hnil : a = none → n = 0) (hlnil : la = none → ln = 0) (hw : ∀ j, j < ln * 2 → (Lit.int .i64 (L j)).wf = true) (w : World) (h : PlanAt w p T A S) (hX : NumsAt w wa m X) (hF : NumsAt w a n F) (hL : NumsAt w la (ln * 2) L) :
    Calls Try.prog 3 #[planV p, .slice wa m wk, wheelsV a n c, .slice la ln lc, .int .i64 b] w fun e w' => e = .returned (.bool true) ∧ Below w.heap.size w w' := by
  obtain ⟨W, hW⟩ : ∃ W, (w.alloc (planB p)).alloc (wheelsB a n c) = W := ⟨_, rfl⟩
  have HB : Hid (Below w.heap.size w W) := Lib.hid (by rw [← hW]; exact (below_new _ _).alloc (by simp) _)
  have HX : Hid (W.heap[w.heap.size]? = some (planB p)) := Lib.hid (by rw [← hW]; exact heap_up (heap_top _ _ rfl) _)
  have HY : Hid (W.heap[w.heap.size + 1]? = some (wheelsB a n c)) := Lib.hid (by rw [← hW]; exact heap_top _ _ (by simp))
  have HP : Hid (PlanAt W p T A S) := Lib.hid (h.below HB.out)
  have HXX := Lib.hid (hX.below HB.out)
  have HFF := Lib.hid (hF.below HB.out)
  have HLL := Lib.hid (hL.below HB.out)
  have HG0 := Lib.hid (And.intro (And.intro hbA hbS) (And.intro hwnil (And.intro hnil (And.intro hlnil hw))))
  clear h hX hF hL hbA hbS hwnil hnil hlnil hw
  have x0 := heap_cell HX.out (j := 0) rfl
  have x1 := heap_cell HX.out (j := 1) rfl
  have x2 := heap_cell HX.out (j := 2) rfl
  have x3 := heap_cell HX.out (j := 3) rfl
  have x4 := heap_cell HX.out (j := 4) rfl
  have x5 := heap_cell HX.out (j := 5) rfl
  have x6 := heap_cell HX.out (j := 6) rfl
  go_enter Try.func3, Try.ntmps3
  go_upto_region 1 with fail
  try rw [hW]
  clear hW
  go_wp2_with fail
  refine (rGreat_any p _).mono ?_
  rintro e W1 ⟨rfl, hb⟩
  clear x0 x1 x2 x3 x4 x5 x6
  have HX1 := Lib.hid (heap_lft HX.out hb)
  have HY1 := Lib.hid (heap_lft HY.out hb)
  have HP1 := Lib.hid (HP.out.below hb)
  have HXX1 := Lib.hid (HXX.out.below hb)
  have HFF1 := Lib.hid (HFF.out.below hb)
  have HLL1 := Lib.hid (HLL.out.below hb)
  have HB1 := Lib.hid (below_thn HB.out hb)
  clear hb
  obtain ⟨g, hg⟩ : ∃ g, (decide (30 < (p.tn : Int)) || decide (20 < (p.an : Int)) || decide (20 < (p.sn : Int))) = g := ⟨_, rfl⟩
  rw [hg]
  cases g
  rotate_left
  · clear hg
    go_wp2_with fail
    go_ret
    exact ⟨rfl, HB1.out⟩
  have HN : Hid (p.tn ≤ 30 ∧ p.an ≤ 20 ∧ p.sn ≤ 20) := Lib.hid (by simp at hg; omega)
  clear hg
  by_cases hm40 : (40 : Int) < m
  · go_wp2_with fail
    go_ret
    exact ⟨rfl, HB1.out⟩
  have hm41 : (m : Int) ≤ 40 := by omega
  have HM : Hid (m ≤ 40) := Lib.hid (by omega)
  clear hm40
  have y0 := heap_cell HY1.out (j := 0) rfl
  go_wp2_with fail
  refine (rGreat_anyG a n c _).mono ?_
  rintro e W2 ⟨rfl, hb⟩
  clear y0
  have HX2 := Lib.hid (heap_lft HX1.out hb)
  have HY2 := Lib.hid (heap_lft HY1.out hb)
  have HP2 := Lib.hid (HP1.out.below hb)
  have HXX2 := Lib.hid (HXX1.out.below hb)
  have HFF2 := Lib.hid (HFF1.out.below hb)
  have HLL2 := Lib.hid (HLL1.out.below hb)
  have HB2 := Lib.hid (below_thn HB1.out hb)
  clear hb
  obtain ⟨gr, hgr⟩ : ∃ q, decide ((20 : Int) < n) = q := ⟨_, rfl⟩
  rw [hgr]
  have HGR := Lib.hid hgr
  clear hgr
  cases gr
  rotate_left
  · go_wp2_with fail
    go_ret
    exact ⟨rfl, HB2.out⟩
  by_cases hl50 : (10 : Int) < ln
  · go_wp2_with fail
    go_ret
    exact ⟨rfl, HB2.out⟩
  have HS : Hid (n ≤ 20 ∧ ln ≤ 10) := Lib.hid (by have h := of_decide_eq_false HGR.out; omega)
  have hl51 : (ln : Int) ≤ 10 := by omega
  clear hl50
  go_upto_region 3 with fail
  go_cut [11, 12, 13, 14] from 39 to 48 (fun s1 s2 s3 s4 wx => ∃ xg xh a1 k1 a2 k2 a3 k3 bb bk dd dk ee ek, s1 = .pointer (some ⟨xg, 0, none⟩) ∧ s2 = .slice bb m bk ∧ s3 = .pointer (some ⟨xh, 0, none⟩) ∧ s4 = .slice ee ln ek ∧ LOwn W2.heap.size wx ⟨p, T, A, S, m, X, n, F, ln, L⟩ xg xh a1 k1 a2 k2 a3 k3 bb bk dd dk ee ek ∧ Below W2.heap.size W2 wx)
  case first =>
    rename_i J K' hJ hK'
    generalize hA : (Act.mk _ _ : Act) = a0
    have m1 : At a0 1 (.slice wa m wk) := by rw [← hA]; rfl
    have m3 : At a0 3 (.slice la ln lc) := by rw [← hA]; rfl
    have m5 : At a0 5 (.pointer (some ⟨w.heap.size, 0, none⟩)) := by rw [← hA]; rfl
    have m7 : At a0 7 (.pointer (some ⟨w.heap.size + 1, 0, none⟩)) := by rw [← hA]; rfl
    have hsz : 48 < a0.tmps.size := by rw [← hA]; exact of_decide_eq_true (by kernel_rfl)
    have hfin : ∀ a' w', Kept (11 :: 12 :: 13 :: 14 :: List.range' 39 10) a0 a' → (∃ xg xh a1 k1 a2 k2 a3 k3 bb bk dd dk ee ek, (a'.tmps.getD 11 undef) = .pointer (some ⟨xg, 0, none⟩) ∧ (a'.tmps.getD 12 undef) = .slice bb m bk ∧ (a'.tmps.getD 13 undef) = .pointer (some ⟨xh, 0, none⟩) ∧ (a'.tmps.getD 14 undef) = .slice ee ln ek ∧ LOwn W2.heap.size w' ⟨p, T, A, S, m, X, n, F, ln, L⟩ xg xh a1 k1 a2 k2 a3 k3 bb bk dd dk ee ek ∧ Below W2.heap.size W2 w') → K' a' w' := by
      intro a' w' hI hL
      refine hK' _ _ (Met.intro (hJ _ _ ⟨a'.tmps.getD 11 undef, a'.tmps.getD 12 undef, a'.tmps.getD 13 undef, a'.tmps.getD 14 undef, a'.tmps.getD 39 undef, a'.tmps.getD 40 undef, a'.tmps.getD 41 undef, a'.tmps.getD 42 undef, a'.tmps.getD 43 undef, a'.tmps.getD 44 undef, a'.tmps.getD 45 undef, a'.tmps.getD 46 undef, a'.tmps.getD 47 undef, a'.tmps.getD 48 undef, hL, hI.eq.trans ?_⟩))
      rw [← hA]
      kernel_rfl
    have hI : Kept (11 :: 12 :: 13 :: 14 :: List.range' 39 10) a0 a0 := Kept.refl _ _
    clear hA hJ hK' J
    refine with_pan (fun d _ _ _ _ h => by cases d <;> exact h) ?_
    intro hpan
    refine wp_region_rest (fun z => z.heap[w.heap.size]? = some (planB p) ∧ z.heap[w.heap.size + 1]? = some (wheelsB a n c)) (by kernel_rfl) ?_
    obtain ⟨wz, hwz⟩ : ∃ x, W2.drew = x := ⟨_, rfl⟩
    change Rest _ _ _ _ _ _ _ (W2.drew)
    rw [hwz]
    have hq : Below W2.heap.size W2 wz := by rw [← hwz]; exact (Below.refl _ _).drew
    clear hwz
    have hS : wz.heap[w.heap.size]? = some (planB p) ∧ wz.heap[w.heap.size + 1]? = some (wheelsB a n c) := ⟨heap_lft HX2.out hq, heap_lft HY2.out hq⟩
    refine rest_take (k := 0) (d := 39) (v := .agg #[.int .i64 p.fr, .slice p.ta p.tn p.tc, .int .i64 p.sd, .int .i64 p.ck, .slice p.aa p.an p.ac, .slice p.sa p.sn p.sc, .int .i64 p.bu]) hI rfl rfl (by kernel_rfl) (Nat.lt_of_le_of_lt (by decide) hsz) (by kernel_rfl) hpan (by kernel_rfl) hS (wanted_free rfl) (fun z hz => by have n5 := hI.at m5 (by kernel_rfl); have e5 := n5; have f5 := n5.eval; unfold At at e5; have k0 := heap_cell hz.1 (j := 0) rfl; have k1 := heap_cell hz.1 (j := 1) rfl; have k2 := heap_cell hz.1 (j := 2) rfl; have k3 := heap_cell hz.1 (j := 3) rfl; have k4 := heap_cell hz.1 (j := 4) rfl; have k5 := heap_cell hz.1 (j := 5) rfl; have k6 := heap_cell hz.1 (j := 6) rfl; simp [go_sem, e5, k0, k1, k2, k3, k4, k5, k6]) (fun a' hI' n39' hk => ?_)
    have n39 := n39'
    replace hI := hI'
    clear hk hI' n39'
    obtain ⟨act9, rfl⟩ : ∃ x, x = a' := ⟨_, rfl⟩
    refine rest_take (k := 3) (d := 42) (v := .slice wa m wk) hI rfl rfl (by kernel_rfl) (Nat.lt_of_le_of_lt (by decide) hsz) (by kernel_rfl) hpan (by kernel_rfl) hS (wanted_free rfl) (fun z hz => by have n1 := hI.at m1 (by kernel_rfl); have e1 := n1; have f1 := n1.eval; unfold At at e1; simp [go_sem, e1]) (fun a' hI' n42' hk => ?_)
    replace n39 := hk _ _ n39 rfl
    have n42 := n42'
    replace hI := hI'
    clear hk hI' n42'
    obtain ⟨act9, rfl⟩ : ∃ x, x = a' := ⟨_, rfl⟩
    refine rest_take (k := 5) (d := 44) (v := .agg #[.slice a n c]) hI rfl rfl (by kernel_rfl) (Nat.lt_of_le_of_lt (by decide) hsz) (by kernel_rfl) hpan (by kernel_rfl) hS (wanted_free rfl) (fun z hz => by have n7 := hI.at m7 (by kernel_rfl); have e7 := n7; have f7 := n7.eval; unfold At at e7; have k0 := heap_cell hz.2 (j := 0) rfl; simp [go_sem, e7, k0]) (fun a' hI' n44' hk => ?_)
    replace n39 := hk _ _ n39 rfl
    replace n42 := hk _ _ n42 rfl
    have n44 := n44'
    replace hI := hI'
    clear hk hI' n44'
    obtain ⟨act9, rfl⟩ : ∃ x, x = a' := ⟨_, rfl⟩
    refine rest_take (k := 8) (d := 47) (v := .slice la ln lc) hI rfl rfl (by kernel_rfl) (Nat.lt_of_le_of_lt (by decide) hsz) (by kernel_rfl) hpan (by kernel_rfl) hS (wanted_free rfl) (fun z hz => by have n3 := hI.at m3 (by kernel_rfl); have e3 := n3; have f3 := n3.eval; unfold At at e3; simp [go_sem, e3]) (fun a' hI' n47' hk => ?_)
    replace n39 := hk _ _ n39 rfl
    replace n42 := hk _ _ n42 rfl
    replace n44 := hk _ _ n44 rfl
    have n47 := n47'
    replace hI := hI'
    clear hk hI' n47'
    obtain ⟨act9, rfl⟩ : ∃ x, x = a' := ⟨_, rfl⟩
    refine rest_name (fun R hR => ?_)
    have st4x2x7x10x11 : ∀ (a1 : Option Addr) (k1 : Nat) (a2 : Option Addr) (k2 : Nat) (a3 : Option Addr) (k3 : Nat) (bb : Option Addr) (bk : Nat) (dd : Option Addr) (dk : Nat) (ee : Option Addr) (ek : Nat) (xg : Nat) (xh : Nat) (ac : Act) (wo : World), Kept (11 :: 12 :: 13 :: 14 :: List.range' 39 10) a0 ac → At ac 40 (.agg #[.int .i64 p.fr, .slice a1 p.tn k1, .int .i64 p.sd, .int .i64 p.ck, .slice a2 p.an k2, .slice a3 p.sn k3, .int .i64 p.bu]) → At ac 43 (.slice bb m bk) → At ac 45 (.agg #[.slice dd n dk]) → At ac 48 (.slice ee ln ek) → At ac 11 (.pointer (some ⟨xg, 0, none⟩)) → At ac 13 (.pointer (some ⟨xh, 0, none⟩)) → LSt W2.heap.size wo ⟨p, T, A, S, m, X, n, F, ln, L⟩ (some (a1, k1, a2, k2, a3, k3)) (some (bb, m, bk)) (some (dd, dk)) (some (ee, ln, ek)) (some xg) (some xh) → (wo.heap[w.heap.size]? = some (planB p) ∧ wo.heap[w.heap.size + 1]? = some (wheelsB a n c)) → Below W2.heap.size W2 wo → R 4 [0, 3, 5, 8, 2, 7, 10, 11, 1, 4, 6, 9] ac wo := by
      intro a1 k1 a2 k2 a3 k3 bb bk dd dk ee ek xg xh ac wo hI n40 n43 n45 n48 n11 n13 hT hS hq
      rw [hR]
      obtain ⟨Z, hZ⟩ : ∃ zz, putPlan wo xg (p.moved a1 k1 a2 k2 a3 k3) = zz := ⟨_, rfl⟩
      have hg := (hT.g _ rfl).1
      have hgb := (hT.g _ rfl).2
      have hh := (hT.h _ rfl).1
      have hhb := (hT.h _ rfl).2
      have hO := hT.put
      have hqz : Below W2.heap.size W2 Z := by rw [← hZ]; exact putPlan_below _ hq hgb
      have hSZ : Z.heap[w.heap.size]? = some (planB p) ∧ Z.heap[w.heap.size + 1]? = some (wheelsB a n c) := ⟨heap_lft HX2.out hqz, heap_lft HY2.out hqz⟩
      have hhz : Z.heap[xh]? = some (wheelsB none 0 0) := by rw [← hZ]; exact (putPlan_other _ (box_ne hg hh)).trans hh
      replace hO : LOwn W2.heap.size (Z.setCell ⟨xh, 0, none⟩ (.slice dd n dk)) ⟨p, T, A, S, m, X, n, F, ln, L⟩ xg xh a1 k1 a2 k2 a3 k3 bb bk dd dk ee ek := by rw [← hZ]; exact hO
      refine rest_only (k := 12) (by kernel_rfl) (op_store (k := 12) rfl rfl (wanted_free rfl) (by have e11 := n11; have f11 := n11.eval; unfold At at e11; have e40 := n40; have f40 := n40.eval; unfold At at e40; have k0 := heap_cell hg (j := 0) rfl; have f0 := heap_frozen hg 0; have k1 := heap_cell hg (j := 1) rfl; have f1 := heap_frozen hg 1; have k2 := heap_cell hg (j := 2) rfl; have f2 := heap_frozen hg 2; have k3 := heap_cell hg (j := 3) rfl; have f3 := heap_frozen hg 3; have k4 := heap_cell hg (j := 4) rfl; have f4 := heap_frozen hg 4; have k5 := heap_cell hg (j := 5) rfl; have f5 := heap_frozen hg 5; have k6 := heap_cell hg (j := 6) rfl; have f6 := heap_frozen hg 6; simp [go_sem, e11, e40, k0, f0, k1, f1, k2, f2, k3, f3, k4, f4, k5, f5, k6, f6]; try rfl) ⟨hZ ▸ hSZ, ?_⟩)
      rw [hZ]
      replace hS := hSZ
      clear hSZ
      refine rest_take (k := 13) (d := 12) (v := .slice bb m bk) hI rfl rfl (by kernel_rfl) (Nat.lt_of_le_of_lt (by decide) hsz) (by kernel_rfl) hpan (by kernel_rfl) hS (wanted_free rfl) (fun z hz => by have e43 := n43; have f43 := n43.eval; unfold At at e43; simp [go_sem, e43]) (fun a' hI' n12' hk => ?_)
      replace n40 := hk _ _ n40 rfl
      replace n43 := hk _ _ n43 rfl
      replace n45 := hk _ _ n45 rfl
      replace n48 := hk _ _ n48 rfl
      replace n11 := hk _ _ n11 rfl
      replace n13 := hk _ _ n13 rfl
      have n12 := n12'
      replace hI := hI'
      clear hk hI' n12'
      obtain ⟨act9, rfl⟩ : ∃ x, x = a' := ⟨_, rfl⟩
      obtain ⟨U, hU⟩ : ∃ zz, Z.setCell ⟨xh, 0, none⟩ (.slice dd n dk) = zz := ⟨_, rfl⟩
      have hqu : Below W2.heap.size W2 U := by rw [← hU]; exact hqz.setCell hhb _
      have hSU : U.heap[w.heap.size]? = some (planB p) ∧ U.heap[w.heap.size + 1]? = some (wheelsB a n c) := ⟨heap_lft HX2.out hqu, heap_lft HY2.out hqu⟩
      rw [hU] at hO
      refine rest_only (k := 14) (by kernel_rfl) (op_store (k := 14) rfl rfl (wanted_free rfl) (by have e13 := n13; have f13 := n13.eval; unfold At at e13; have e45 := n45; have f45 := n45.eval; unfold At at e45; have k0 := heap_cell hhz (j := 0) rfl; have f0 := heap_frozen hhz 0; simp [go_sem, e13, e45, k0, f0]; try rfl) ⟨by rw [hU]; exact hSU, ?_⟩)
      rw [hU]
      replace hS := hSU
      clear hSU
      refine rest_take (k := 15) (d := 14) (v := .slice ee ln ek) hI rfl rfl (by kernel_rfl) (Nat.lt_of_le_of_lt (by decide) hsz) (by kernel_rfl) hpan (by kernel_rfl) hS (wanted_free rfl) (fun z hz => by have e48 := n48; have f48 := n48.eval; unfold At at e48; simp [go_sem, e48]) (fun a' hI' n14' hk => ?_)
      replace n40 := hk _ _ n40 rfl
      replace n43 := hk _ _ n43 rfl
      replace n45 := hk _ _ n45 rfl
      replace n48 := hk _ _ n48 rfl
      replace n11 := hk _ _ n11 rfl
      replace n13 := hk _ _ n13 rfl
      replace n12 := hk _ _ n12 rfl
      have n14 := n14'
      replace hI := hI'
      clear hk hI' n14'
      obtain ⟨act9, rfl⟩ : ∃ x, x = a' := ⟨_, rfl⟩
      refine rest_done (by kernel_rfl) ?_
      exact hfin _ _ hI ⟨xg, xh, a1, k1, a2, k2, a3, k3, bb, bk, dd, dk, ee, ek, by have g := n11; unfold At at g; rw [Array.getD_eq_getD_getElem?, g]; rfl, by have g := n12; unfold At at g; rw [Array.getD_eq_getD_getElem?, g]; rfl, by have g := n13; unfold At at g; rw [Array.getD_eq_getD_getElem?, g]; rfl, by have g := n14; unfold At at g; rw [Array.getD_eq_getD_getElem?, g]; rfl, hO, hqu⟩
    have st3x2x7x10x11 : ∀ (a1 : Option Addr) (k1 : Nat) (a2 : Option Addr) (k2 : Nat) (a3 : Option Addr) (k3 : Nat) (bb : Option Addr) (bk : Nat) (dd : Option Addr) (dk : Nat) (en : Nat) (xg : Nat) (xh : Nat) (ac : Act) (wo : World), Kept (11 :: 12 :: 13 :: 14 :: List.range' 39 10) a0 ac → At ac 40 (.agg #[.int .i64 p.fr, .slice a1 p.tn k1, .int .i64 p.sd, .int .i64 p.ck, .slice a2 p.an k2, .slice a3 p.sn k3, .int .i64 p.bu]) → At ac 43 (.slice bb m bk) → At ac 45 (.agg #[.slice dd n dk]) → At ac 47 (.slice la ln lc) → At ac 46 (.slice (some ⟨en, 0, none⟩) 0 0) → At ac 11 (.pointer (some ⟨xg, 0, none⟩)) → At ac 13 (.pointer (some ⟨xh, 0, none⟩)) → LSt W2.heap.size wo ⟨p, T, A, S, m, X, n, F, ln, L⟩ (some (a1, k1, a2, k2, a3, k3)) (some (bb, m, bk)) (some (dd, dk)) (some (some ⟨en, 0, none⟩, 0, 0)) (some xg) (some xh) → (wo.heap[w.heap.size]? = some (planB p) ∧ wo.heap[w.heap.size + 1]? = some (wheelsB a n c)) → Below W2.heap.size W2 wo → R 5 [0, 3, 5, 8, 2, 7, 10, 11, 1, 4, 6] ac wo := by
      intro a1 k1 a2 k2 a3 k3 bb bk dd dk en xg xh ac wo hI n40 n43 n45 n47 n46 n11 n13 hT hS hq
      rw [hR]
      obtain ⟨ee, ek, nw, hr, hT1, hb1⟩ := hT.appE (HLL2.out.below hq) HG0.out.2.2.2.1 HS.out.2 hq.size 29
      have hq1 := hq.trans hb1
      have hS1 : nw.heap[w.heap.size]? = some (planB p) ∧ nw.heap[w.heap.size + 1]? = some (wheelsB a n c) := ⟨heap_lft HX2.out hq1, heap_lft HY2.out hq1⟩
      refine rest_only (k := 9) (by kernel_rfl) (op_value (k := 9) (d := 48) (v := .slice ee ln ek) hI rfl rfl (by kernel_rfl) (Nat.lt_of_le_of_lt (by decide) hsz) (wanted_free rfl) (exec_append (.tmp 46) (.tmp 47) 29 29 rfl n46.eval n47.eval (hr)) (fun a' hI' n48' hk => ⟨hS1, ?_⟩))
      replace n40 := hk _ _ n40 rfl
      replace n43 := hk _ _ n43 rfl
      replace n45 := hk _ _ n45 rfl
      replace n47 := hk _ _ n47 rfl
      replace n46 := hk _ _ n46 rfl
      replace n11 := hk _ _ n11 rfl
      replace n13 := hk _ _ n13 rfl
      have n48 := n48'
      replace hI := hI'
      clear hk hI' n48'
      obtain ⟨act9, rfl⟩ : ∃ x, x = a' := ⟨_, rfl⟩
      refine Rest.same (d' := [0, 3, 5, 8, 2, 7, 10, 11, 1, 4, 6, 9]) ?_ (by kernel_rfl)
      rw [← hR]
      exact st4x2x7x10x11 a1 k1 a2 k2 a3 k3 bb bk dd dk ee ek xg xh _ _ hI n40 n43 n45 n48 n11 n13 hT1 hS1 hq1
    have st4x2x7x10 : ∀ (a1 : Option Addr) (k1 : Nat) (a2 : Option Addr) (k2 : Nat) (a3 : Option Addr) (k3 : Nat) (bb : Option Addr) (bk : Nat) (dd : Option Addr) (dk : Nat) (ee : Option Addr) (ek : Nat) (xg : Nat) (ac : Act) (wo : World), Kept (11 :: 12 :: 13 :: 14 :: List.range' 39 10) a0 ac → At ac 40 (.agg #[.int .i64 p.fr, .slice a1 p.tn k1, .int .i64 p.sd, .int .i64 p.ck, .slice a2 p.an k2, .slice a3 p.sn k3, .int .i64 p.bu]) → At ac 43 (.slice bb m bk) → At ac 45 (.agg #[.slice dd n dk]) → At ac 48 (.slice ee ln ek) → At ac 11 (.pointer (some ⟨xg, 0, none⟩)) → LSt W2.heap.size wo ⟨p, T, A, S, m, X, n, F, ln, L⟩ (some (a1, k1, a2, k2, a3, k3)) (some (bb, m, bk)) (some (dd, dk)) (some (ee, ln, ek)) (some xg) none → (wo.heap[w.heap.size]? = some (planB p) ∧ wo.heap[w.heap.size + 1]? = some (wheelsB a n c)) → Below W2.heap.size W2 wo → R 5 [0, 3, 5, 8, 2, 7, 10, 1, 4, 6, 9] ac wo := by
      clear st3x2x7x10x11
      intro a1 k1 a2 k2 a3 k3 bb bk dd dk ee ek xg ac wo hI n40 n43 n45 n48 n11 hT hS hq
      rw [hR]
      have hn1 := below_new wo (wheelsB none 0 0)
      have hT1 := hT.newH hq.size
      have hS1 : (wo.alloc (wheelsB none 0 0)).heap[w.heap.size]? = some (planB p) ∧ (wo.alloc (wheelsB none 0 0)).heap[w.heap.size + 1]? = some (wheelsB a n c) := (And.intro (heap_lft hS.1 hn1) (heap_lft hS.2 hn1))
      have hq1 := below_thn hq hn1
      obtain ⟨nw, hwe⟩ : ∃ y, wo.alloc (wheelsB none 0 0) = y := ⟨_, rfl⟩
      rw [hwe] at hn1 hT1 hS1 hq1
      refine rest_only (k := 11) (by kernel_rfl) (op_value (k := 11) (d := 13) (v := .pointer (some ⟨wo.heap.size, 0, none⟩)) hI rfl rfl (by kernel_rfl) (Nat.lt_of_le_of_lt (by decide) hsz) (wanted_free rfl) (by simp [go_sem]; try rfl) (fun a' hI' n13' hk => ⟨by rw [show _ = nw from hwe]; exact hS1, ?_⟩))
      replace n40 := hk _ _ n40 rfl
      replace n43 := hk _ _ n43 rfl
      replace n45 := hk _ _ n45 rfl
      replace n48 := hk _ _ n48 rfl
      replace n11 := hk _ _ n11 rfl
      have n13 := n13'
      replace hI := hI'
      clear hk hI' n13'
      obtain ⟨act9, rfl⟩ : ∃ x, x = a' := ⟨_, rfl⟩
      rw [show World.alloc wo _ = nw from hwe]
      refine Rest.same (d' := [0, 3, 5, 8, 2, 7, 10, 11, 1, 4, 6, 9]) ?_ (by kernel_rfl)
      rw [← hR]
      exact st4x2x7x10x11 a1 k1 a2 k2 a3 k3 bb bk dd dk ee ek xg wo.heap.size _ _ hI n40 n43 n45 n48 n11 n13 hT1 hS1 hq1
    have st4x2x7x11 : ∀ (a1 : Option Addr) (k1 : Nat) (a2 : Option Addr) (k2 : Nat) (a3 : Option Addr) (k3 : Nat) (bb : Option Addr) (bk : Nat) (dd : Option Addr) (dk : Nat) (ee : Option Addr) (ek : Nat) (xh : Nat) (ac : Act) (wo : World), Kept (11 :: 12 :: 13 :: 14 :: List.range' 39 10) a0 ac → At ac 40 (.agg #[.int .i64 p.fr, .slice a1 p.tn k1, .int .i64 p.sd, .int .i64 p.ck, .slice a2 p.an k2, .slice a3 p.sn k3, .int .i64 p.bu]) → At ac 43 (.slice bb m bk) → At ac 45 (.agg #[.slice dd n dk]) → At ac 48 (.slice ee ln ek) → At ac 13 (.pointer (some ⟨xh, 0, none⟩)) → LSt W2.heap.size wo ⟨p, T, A, S, m, X, n, F, ln, L⟩ (some (a1, k1, a2, k2, a3, k3)) (some (bb, m, bk)) (some (dd, dk)) (some (ee, ln, ek)) none (some xh) → (wo.heap[w.heap.size]? = some (planB p) ∧ wo.heap[w.heap.size + 1]? = some (wheelsB a n c)) → Below W2.heap.size W2 wo → R 5 [0, 3, 5, 8, 2, 7, 11, 1, 4, 6, 9] ac wo := by
      clear st3x2x7x10x11 st4x2x7x10
      intro a1 k1 a2 k2 a3 k3 bb bk dd dk ee ek xh ac wo hI n40 n43 n45 n48 n13 hT hS hq
      rw [hR]
      have hn1 := below_new wo (planB noPlan)
      have hT1 := hT.newG hq.size
      have hS1 : (wo.alloc (planB noPlan)).heap[w.heap.size]? = some (planB p) ∧ (wo.alloc (planB noPlan)).heap[w.heap.size + 1]? = some (wheelsB a n c) := (And.intro (heap_lft hS.1 hn1) (heap_lft hS.2 hn1))
      have hq1 := below_thn hq hn1
      obtain ⟨nw, hwe⟩ : ∃ y, wo.alloc (planB noPlan) = y := ⟨_, rfl⟩
      rw [hwe] at hn1 hT1 hS1 hq1
      refine rest_only (k := 10) (by kernel_rfl) (op_value (k := 10) (d := 11) (v := .pointer (some ⟨wo.heap.size, 0, none⟩)) hI rfl rfl (by kernel_rfl) (Nat.lt_of_le_of_lt (by decide) hsz) (wanted_free rfl) (by simp [go_sem]; try rfl) (fun a' hI' n11' hk => ⟨by rw [show _ = nw from hwe]; exact hS1, ?_⟩))
      replace n40 := hk _ _ n40 rfl
      replace n43 := hk _ _ n43 rfl
      replace n45 := hk _ _ n45 rfl
      replace n48 := hk _ _ n48 rfl
      replace n13 := hk _ _ n13 rfl
      have n11 := n11'
      replace hI := hI'
      clear hk hI' n11'
      obtain ⟨act9, rfl⟩ : ∃ x, x = a' := ⟨_, rfl⟩
      rw [show World.alloc wo _ = nw from hwe]
      refine Rest.same (d' := [0, 3, 5, 8, 2, 7, 10, 11, 1, 4, 6, 9]) ?_ (by kernel_rfl)
      rw [← hR]
      exact st4x2x7x10x11 a1 k1 a2 k2 a3 k3 bb bk dd dk ee ek wo.heap.size xh _ _ hI n40 n43 n45 n48 n11 n13 hT1 hS1 hq1
    have st2x2x7x10x11 : ∀ (a1 : Option Addr) (k1 : Nat) (a2 : Option Addr) (k2 : Nat) (a3 : Option Addr) (k3 : Nat) (bb : Option Addr) (bk : Nat) (en : Nat) (xg : Nat) (xh : Nat) (ac : Act) (wo : World), Kept (11 :: 12 :: 13 :: 14 :: List.range' 39 10) a0 ac → At ac 40 (.agg #[.int .i64 p.fr, .slice a1 p.tn k1, .int .i64 p.sd, .int .i64 p.ck, .slice a2 p.an k2, .slice a3 p.sn k3, .int .i64 p.bu]) → At ac 43 (.slice bb m bk) → At ac 44 (.agg #[.slice a n c]) → At ac 47 (.slice la ln lc) → At ac 46 (.slice (some ⟨en, 0, none⟩) 0 0) → At ac 11 (.pointer (some ⟨xg, 0, none⟩)) → At ac 13 (.pointer (some ⟨xh, 0, none⟩)) → LSt W2.heap.size wo ⟨p, T, A, S, m, X, n, F, ln, L⟩ (some (a1, k1, a2, k2, a3, k3)) (some (bb, m, bk)) none (some (some ⟨en, 0, none⟩, 0, 0)) (some xg) (some xh) → (wo.heap[w.heap.size]? = some (planB p) ∧ wo.heap[w.heap.size + 1]? = some (wheelsB a n c)) → Below W2.heap.size W2 wo → R 6 [0, 3, 5, 8, 2, 7, 10, 11, 1, 4] ac wo := by
      clear st4x2x7x10x11 st4x2x7x10 st4x2x7x11
      intro a1 k1 a2 k2 a3 k3 bb bk en xg xh ac wo hI n40 n43 n44 n47 n46 n11 n13 hT hS hq
      rw [hR]
      refine rest_only (k := 6) (by kernel_rfl) (op_call (k := 6) (d := 45) (R := fun v w' => ∃ dd dk, v = .agg #[.slice dd n dk] ∧ OwnNums w' wo.heap.size 3 1 dd n dk F ∧ Below wo.heap.size wo w') hI rfl rfl (by kernel_rfl) (Nat.lt_of_le_of_lt (by decide) hsz) (wanted_free rfl) ((rTwin_any a n c F (by have := HS.out; omega) HG0.out.2.2.1 _ (HFF2.out.below hq)).mono fun e w' g => by obtain ⟨d1, k1, h1, h2, h3⟩ := g; exact ⟨_, h1, d1, k1, rfl, h2, h3⟩) (by have e44 := n44; have f44 := n44.eval; unfold At at e44; simp [go_sem, e44]) ?_)
      intro v w' a' hR' hI' n45' hk
      obtain ⟨dd, dk, rfl, h1, hb⟩ := hR'
      have hT1 := hT.setD hb hq.size h1
      refine ⟨(And.intro (heap_lft hS.1 hb) (heap_lft hS.2 hb)), ?_⟩
      replace n40 := hk _ _ n40 rfl
      replace n43 := hk _ _ n43 rfl
      replace n44 := hk _ _ n44 rfl
      replace n47 := hk _ _ n47 rfl
      replace n46 := hk _ _ n46 rfl
      replace n11 := hk _ _ n11 rfl
      replace n13 := hk _ _ n13 rfl
      have n45 := n45'
      replace hI := hI'
      clear hk hI' n45'
      obtain ⟨act9, rfl⟩ : ∃ x, x = a' := ⟨_, rfl⟩
      have hS1 := (And.intro (heap_lft hS.1 hb) (heap_lft hS.2 hb))
      have hq1 := below_thn hq hb
      refine Rest.same (d' := [0, 3, 5, 8, 2, 7, 10, 11, 1, 4, 6]) ?_ (by kernel_rfl)
      rw [← hR]
      exact st3x2x7x10x11 a1 k1 a2 k2 a3 k3 bb bk dd dk en xg xh _ _ hI n40 n43 n45 n47 n46 n11 n13 hT1 hS1 hq1
    have st3x2x7x10 : ∀ (a1 : Option Addr) (k1 : Nat) (a2 : Option Addr) (k2 : Nat) (a3 : Option Addr) (k3 : Nat) (bb : Option Addr) (bk : Nat) (dd : Option Addr) (dk : Nat) (en : Nat) (xg : Nat) (ac : Act) (wo : World), Kept (11 :: 12 :: 13 :: 14 :: List.range' 39 10) a0 ac → At ac 40 (.agg #[.int .i64 p.fr, .slice a1 p.tn k1, .int .i64 p.sd, .int .i64 p.ck, .slice a2 p.an k2, .slice a3 p.sn k3, .int .i64 p.bu]) → At ac 43 (.slice bb m bk) → At ac 45 (.agg #[.slice dd n dk]) → At ac 47 (.slice la ln lc) → At ac 46 (.slice (some ⟨en, 0, none⟩) 0 0) → At ac 11 (.pointer (some ⟨xg, 0, none⟩)) → LSt W2.heap.size wo ⟨p, T, A, S, m, X, n, F, ln, L⟩ (some (a1, k1, a2, k2, a3, k3)) (some (bb, m, bk)) (some (dd, dk)) (some (some ⟨en, 0, none⟩, 0, 0)) (some xg) none → (wo.heap[w.heap.size]? = some (planB p) ∧ wo.heap[w.heap.size + 1]? = some (wheelsB a n c)) → Below W2.heap.size W2 wo → R 6 [0, 3, 5, 8, 2, 7, 10, 1, 4, 6] ac wo := by
      clear st4x2x7x10x11 st4x2x7x11 st2x2x7x10x11
      intro a1 k1 a2 k2 a3 k3 bb bk dd dk en xg ac wo hI n40 n43 n45 n47 n46 n11 hT hS hq
      rw [hR]
      refine rest_split [9, 11] (by kernel_rfl) rfl (fun i9 hi9 => ?_)
      have hi9' : i9 = 9 ∨ i9 = 11 := by simpa using hi9
      clear hi9
      rcases hi9' with rfl | rfl
      · obtain ⟨ee, ek, nw, hr, hT1, hb1⟩ := hT.appE (HLL2.out.below hq) HG0.out.2.2.2.1 HS.out.2 hq.size 29
        have hq1 := hq.trans hb1
        have hS1 : nw.heap[w.heap.size]? = some (planB p) ∧ nw.heap[w.heap.size + 1]? = some (wheelsB a n c) := ⟨heap_lft HX2.out hq1, heap_lft HY2.out hq1⟩
        refine _root_.id (op_value (k := 9) (d := 48) (v := .slice ee ln ek) hI rfl rfl (by kernel_rfl) (Nat.lt_of_le_of_lt (by decide) hsz) (wanted_free rfl) (exec_append (.tmp 46) (.tmp 47) 29 29 rfl n46.eval n47.eval (hr)) (fun a' hI' n48' hk => ⟨hS1, ?_⟩))
        replace n40 := hk _ _ n40 rfl
        replace n43 := hk _ _ n43 rfl
        replace n45 := hk _ _ n45 rfl
        replace n47 := hk _ _ n47 rfl
        replace n46 := hk _ _ n46 rfl
        replace n11 := hk _ _ n11 rfl
        have n48 := n48'
        replace hI := hI'
        clear hk hI' n48'
        obtain ⟨act9, rfl⟩ : ∃ x, x = a' := ⟨_, rfl⟩
        refine Rest.same (d' := [0, 3, 5, 8, 2, 7, 10, 1, 4, 6, 9]) ?_ (by kernel_rfl)
        rw [← hR]
        exact st4x2x7x10 a1 k1 a2 k2 a3 k3 bb bk dd dk ee ek xg _ _ hI n40 n43 n45 n48 n11 hT1 hS1 hq1
      · have hn1 := below_new wo (wheelsB none 0 0)
        have hT1 := hT.newH hq.size
        have hS1 : (wo.alloc (wheelsB none 0 0)).heap[w.heap.size]? = some (planB p) ∧ (wo.alloc (wheelsB none 0 0)).heap[w.heap.size + 1]? = some (wheelsB a n c) := (And.intro (heap_lft hS.1 hn1) (heap_lft hS.2 hn1))
        have hq1 := below_thn hq hn1
        obtain ⟨nw, hwe⟩ : ∃ y, wo.alloc (wheelsB none 0 0) = y := ⟨_, rfl⟩
        rw [hwe] at hn1 hT1 hS1 hq1
        refine _root_.id (op_value (k := 11) (d := 13) (v := .pointer (some ⟨wo.heap.size, 0, none⟩)) hI rfl rfl (by kernel_rfl) (Nat.lt_of_le_of_lt (by decide) hsz) (wanted_free rfl) (by simp [go_sem]; try rfl) (fun a' hI' n13' hk => ⟨by rw [show _ = nw from hwe]; exact hS1, ?_⟩))
        replace n40 := hk _ _ n40 rfl
        replace n43 := hk _ _ n43 rfl
        replace n45 := hk _ _ n45 rfl
        replace n47 := hk _ _ n47 rfl
        replace n46 := hk _ _ n46 rfl
        replace n11 := hk _ _ n11 rfl
        have n13 := n13'
        replace hI := hI'
        clear hk hI' n13'
        obtain ⟨act9, rfl⟩ : ∃ x, x = a' := ⟨_, rfl⟩
        rw [show World.alloc wo _ = nw from hwe]
        refine Rest.same (d' := [0, 3, 5, 8, 2, 7, 10, 11, 1, 4, 6]) ?_ (by kernel_rfl)
        rw [← hR]
        exact st3x2x7x10x11 a1 k1 a2 k2 a3 k3 bb bk dd dk en xg wo.heap.size _ _ hI n40 n43 n45 n47 n46 n11 n13 hT1 hS1 hq1
    have st3x2x7x11 : ∀ (a1 : Option Addr) (k1 : Nat) (a2 : Option Addr) (k2 : Nat) (a3 : Option Addr) (k3 : Nat) (bb : Option Addr) (bk : Nat) (dd : Option Addr) (dk : Nat) (en : Nat) (xh : Nat) (ac : Act) (wo : World), Kept (11 :: 12 :: 13 :: 14 :: List.range' 39 10) a0 ac → At ac 40 (.agg #[.int .i64 p.fr, .slice a1 p.tn k1, .int .i64 p.sd, .int .i64 p.ck, .slice a2 p.an k2, .slice a3 p.sn k3, .int .i64 p.bu]) → At ac 43 (.slice bb m bk) → At ac 45 (.agg #[.slice dd n dk]) → At ac 47 (.slice la ln lc) → At ac 46 (.slice (some ⟨en, 0, none⟩) 0 0) → At ac 13 (.pointer (some ⟨xh, 0, none⟩)) → LSt W2.heap.size wo ⟨p, T, A, S, m, X, n, F, ln, L⟩ (some (a1, k1, a2, k2, a3, k3)) (some (bb, m, bk)) (some (dd, dk)) (some (some ⟨en, 0, none⟩, 0, 0)) none (some xh) → (wo.heap[w.heap.size]? = some (planB p) ∧ wo.heap[w.heap.size + 1]? = some (wheelsB a n c)) → Below W2.heap.size W2 wo → R 6 [0, 3, 5, 8, 2, 7, 11, 1, 4, 6] ac wo := by
      clear st4x2x7x10x11 st4x2x7x10 st2x2x7x10x11 st3x2x7x10
      intro a1 k1 a2 k2 a3 k3 bb bk dd dk en xh ac wo hI n40 n43 n45 n47 n46 n13 hT hS hq
      rw [hR]
      refine rest_split [9, 10] (by kernel_rfl) rfl (fun i9 hi9 => ?_)
      have hi9' : i9 = 9 ∨ i9 = 10 := by simpa using hi9
      clear hi9
      rcases hi9' with rfl | rfl
      · obtain ⟨ee, ek, nw, hr, hT1, hb1⟩ := hT.appE (HLL2.out.below hq) HG0.out.2.2.2.1 HS.out.2 hq.size 29
        have hq1 := hq.trans hb1
        have hS1 : nw.heap[w.heap.size]? = some (planB p) ∧ nw.heap[w.heap.size + 1]? = some (wheelsB a n c) := ⟨heap_lft HX2.out hq1, heap_lft HY2.out hq1⟩
        refine _root_.id (op_value (k := 9) (d := 48) (v := .slice ee ln ek) hI rfl rfl (by kernel_rfl) (Nat.lt_of_le_of_lt (by decide) hsz) (wanted_free rfl) (exec_append (.tmp 46) (.tmp 47) 29 29 rfl n46.eval n47.eval (hr)) (fun a' hI' n48' hk => ⟨hS1, ?_⟩))
        replace n40 := hk _ _ n40 rfl
        replace n43 := hk _ _ n43 rfl
        replace n45 := hk _ _ n45 rfl
        replace n47 := hk _ _ n47 rfl
        replace n46 := hk _ _ n46 rfl
        replace n13 := hk _ _ n13 rfl
        have n48 := n48'
        replace hI := hI'
        clear hk hI' n48'
        obtain ⟨act9, rfl⟩ : ∃ x, x = a' := ⟨_, rfl⟩
        refine Rest.same (d' := [0, 3, 5, 8, 2, 7, 11, 1, 4, 6, 9]) ?_ (by kernel_rfl)
        rw [← hR]
        exact st4x2x7x11 a1 k1 a2 k2 a3 k3 bb bk dd dk ee ek xh _ _ hI n40 n43 n45 n48 n13 hT1 hS1 hq1
      · have hn1 := below_new wo (planB noPlan)
        have hT1 := hT.newG hq.size
        have hS1 : (wo.alloc (planB noPlan)).heap[w.heap.size]? = some (planB p) ∧ (wo.alloc (planB noPlan)).heap[w.heap.size + 1]? = some (wheelsB a n c) := (And.intro (heap_lft hS.1 hn1) (heap_lft hS.2 hn1))
        have hq1 := below_thn hq hn1
        obtain ⟨nw, hwe⟩ : ∃ y, wo.alloc (planB noPlan) = y := ⟨_, rfl⟩
        rw [hwe] at hn1 hT1 hS1 hq1
        refine _root_.id (op_value (k := 10) (d := 11) (v := .pointer (some ⟨wo.heap.size, 0, none⟩)) hI rfl rfl (by kernel_rfl) (Nat.lt_of_le_of_lt (by decide) hsz) (wanted_free rfl) (by simp [go_sem]; try rfl) (fun a' hI' n11' hk => ⟨by rw [show _ = nw from hwe]; exact hS1, ?_⟩))
        replace n40 := hk _ _ n40 rfl
        replace n43 := hk _ _ n43 rfl
        replace n45 := hk _ _ n45 rfl
        replace n47 := hk _ _ n47 rfl
        replace n46 := hk _ _ n46 rfl
        replace n13 := hk _ _ n13 rfl
        have n11 := n11'
        replace hI := hI'
        clear hk hI' n11'
        obtain ⟨act9, rfl⟩ : ∃ x, x = a' := ⟨_, rfl⟩
        rw [show World.alloc wo _ = nw from hwe]
        refine Rest.same (d' := [0, 3, 5, 8, 2, 7, 10, 11, 1, 4, 6]) ?_ (by kernel_rfl)
        rw [← hR]
        exact st3x2x7x10x11 a1 k1 a2 k2 a3 k3 bb bk dd dk en wo.heap.size xh _ _ hI n40 n43 n45 n47 n46 n11 n13 hT1 hS1 hq1
    have st3x2x10x11 : ∀ (a1 : Option Addr) (k1 : Nat) (a2 : Option Addr) (k2 : Nat) (a3 : Option Addr) (k3 : Nat) (bb : Option Addr) (bk : Nat) (dd : Option Addr) (dk : Nat) (xg : Nat) (xh : Nat) (ac : Act) (wo : World), Kept (11 :: 12 :: 13 :: 14 :: List.range' 39 10) a0 ac → At ac 40 (.agg #[.int .i64 p.fr, .slice a1 p.tn k1, .int .i64 p.sd, .int .i64 p.ck, .slice a2 p.an k2, .slice a3 p.sn k3, .int .i64 p.bu]) → At ac 43 (.slice bb m bk) → At ac 45 (.agg #[.slice dd n dk]) → At ac 47 (.slice la ln lc) → At ac 11 (.pointer (some ⟨xg, 0, none⟩)) → At ac 13 (.pointer (some ⟨xh, 0, none⟩)) → LSt W2.heap.size wo ⟨p, T, A, S, m, X, n, F, ln, L⟩ (some (a1, k1, a2, k2, a3, k3)) (some (bb, m, bk)) (some (dd, dk)) none (some xg) (some xh) → (wo.heap[w.heap.size]? = some (planB p) ∧ wo.heap[w.heap.size + 1]? = some (wheelsB a n c)) → Below W2.heap.size W2 wo → R 6 [0, 3, 5, 8, 2, 10, 11, 1, 4, 6] ac wo := by
      clear st4x2x7x10x11 st4x2x7x10 st4x2x7x11 st2x2x7x10x11 st3x2x7x10 st3x2x7x11
      intro a1 k1 a2 k2 a3 k3 bb bk dd dk xg xh ac wo hI n40 n43 n45 n47 n11 n13 hT hS hq
      rw [hR]
      have hn1 := below_new wo (.cells #[] 63)
      have hT1 := hT.newE hq.size
      have hS1 : (wo.alloc (.cells #[] 63)).heap[w.heap.size]? = some (planB p) ∧ (wo.alloc (.cells #[] 63)).heap[w.heap.size + 1]? = some (wheelsB a n c) := (And.intro (heap_lft hS.1 hn1) (heap_lft hS.2 hn1))
      have hq1 := below_thn hq hn1
      obtain ⟨nw, hwe⟩ : ∃ y, wo.alloc (.cells #[] 63) = y := ⟨_, rfl⟩
      rw [hwe] at hn1 hT1 hS1 hq1
      refine rest_only (k := 7) (by kernel_rfl) (op_value (k := 7) (d := 46) (v := .slice (some ⟨wo.heap.size, 0, none⟩) 0 0) hI rfl rfl (by kernel_rfl) (Nat.lt_of_le_of_lt (by decide) hsz) (wanted_free rfl) (by simp [go_sem]; try rfl) (fun a' hI' n46' hk => ⟨by rw [hwe]; exact hS1, ?_⟩))
      replace n40 := hk _ _ n40 rfl
      replace n43 := hk _ _ n43 rfl
      replace n45 := hk _ _ n45 rfl
      replace n47 := hk _ _ n47 rfl
      replace n11 := hk _ _ n11 rfl
      replace n13 := hk _ _ n13 rfl
      have n46 := n46'
      replace hI := hI'
      clear hk hI' n46'
      obtain ⟨act9, rfl⟩ : ∃ x, x = a' := ⟨_, rfl⟩
      rw [hwe]
      refine Rest.same (d' := [0, 3, 5, 8, 2, 7, 10, 11, 1, 4, 6]) ?_ (by kernel_rfl)
      rw [← hR]
      exact st3x2x7x10x11 a1 k1 a2 k2 a3 k3 bb bk dd dk wo.heap.size xg xh _ _ hI n40 n43 n45 n47 n46 n11 n13 hT1 hS1 hq1
    have st4x2x7 : ∀ (a1 : Option Addr) (k1 : Nat) (a2 : Option Addr) (k2 : Nat) (a3 : Option Addr) (k3 : Nat) (bb : Option Addr) (bk : Nat) (dd : Option Addr) (dk : Nat) (ee : Option Addr) (ek : Nat) (ac : Act) (wo : World), Kept (11 :: 12 :: 13 :: 14 :: List.range' 39 10) a0 ac → At ac 40 (.agg #[.int .i64 p.fr, .slice a1 p.tn k1, .int .i64 p.sd, .int .i64 p.ck, .slice a2 p.an k2, .slice a3 p.sn k3, .int .i64 p.bu]) → At ac 43 (.slice bb m bk) → At ac 45 (.agg #[.slice dd n dk]) → At ac 48 (.slice ee ln ek) → LSt W2.heap.size wo ⟨p, T, A, S, m, X, n, F, ln, L⟩ (some (a1, k1, a2, k2, a3, k3)) (some (bb, m, bk)) (some (dd, dk)) (some (ee, ln, ek)) none none → (wo.heap[w.heap.size]? = some (planB p) ∧ wo.heap[w.heap.size + 1]? = some (wheelsB a n c)) → Below W2.heap.size W2 wo → R 6 [0, 3, 5, 8, 2, 7, 1, 4, 6, 9] ac wo := by
      clear st4x2x7x10x11 st3x2x7x10x11 st2x2x7x10x11 st3x2x7x10 st3x2x7x11 st3x2x10x11
      intro a1 k1 a2 k2 a3 k3 bb bk dd dk ee ek ac wo hI n40 n43 n45 n48 hT hS hq
      rw [hR]
      refine rest_split [10, 11] (by kernel_rfl) rfl (fun i9 hi9 => ?_)
      have hi9' : i9 = 10 ∨ i9 = 11 := by simpa using hi9
      clear hi9
      rcases hi9' with rfl | rfl
      · have hn1 := below_new wo (planB noPlan)
        have hT1 := hT.newG hq.size
        have hS1 : (wo.alloc (planB noPlan)).heap[w.heap.size]? = some (planB p) ∧ (wo.alloc (planB noPlan)).heap[w.heap.size + 1]? = some (wheelsB a n c) := (And.intro (heap_lft hS.1 hn1) (heap_lft hS.2 hn1))
        have hq1 := below_thn hq hn1
        obtain ⟨nw, hwe⟩ : ∃ y, wo.alloc (planB noPlan) = y := ⟨_, rfl⟩
        rw [hwe] at hn1 hT1 hS1 hq1
        refine _root_.id (op_value (k := 10) (d := 11) (v := .pointer (some ⟨wo.heap.size, 0, none⟩)) hI rfl rfl (by kernel_rfl) (Nat.lt_of_le_of_lt (by decide) hsz) (wanted_free rfl) (by simp [go_sem]; try rfl) (fun a' hI' n11' hk => ⟨by rw [show _ = nw from hwe]; exact hS1, ?_⟩))
        replace n40 := hk _ _ n40 rfl
        replace n43 := hk _ _ n43 rfl
        replace n45 := hk _ _ n45 rfl
        replace n48 := hk _ _ n48 rfl
        have n11 := n11'
        replace hI := hI'
        clear hk hI' n11'
        obtain ⟨act9, rfl⟩ : ∃ x, x = a' := ⟨_, rfl⟩
        rw [show World.alloc wo _ = nw from hwe]
        refine Rest.same (d' := [0, 3, 5, 8, 2, 7, 10, 1, 4, 6, 9]) ?_ (by kernel_rfl)
        rw [← hR]
        exact st4x2x7x10 a1 k1 a2 k2 a3 k3 bb bk dd dk ee ek wo.heap.size _ _ hI n40 n43 n45 n48 n11 hT1 hS1 hq1
      · have hn1 := below_new wo (wheelsB none 0 0)
        have hT1 := hT.newH hq.size
        have hS1 : (wo.alloc (wheelsB none 0 0)).heap[w.heap.size]? = some (planB p) ∧ (wo.alloc (wheelsB none 0 0)).heap[w.heap.size + 1]? = some (wheelsB a n c) := (And.intro (heap_lft hS.1 hn1) (heap_lft hS.2 hn1))
        have hq1 := below_thn hq hn1
        obtain ⟨nw, hwe⟩ : ∃ y, wo.alloc (wheelsB none 0 0) = y := ⟨_, rfl⟩
        rw [hwe] at hn1 hT1 hS1 hq1
        refine _root_.id (op_value (k := 11) (d := 13) (v := .pointer (some ⟨wo.heap.size, 0, none⟩)) hI rfl rfl (by kernel_rfl) (Nat.lt_of_le_of_lt (by decide) hsz) (wanted_free rfl) (by simp [go_sem]; try rfl) (fun a' hI' n13' hk => ⟨by rw [show _ = nw from hwe]; exact hS1, ?_⟩))
        replace n40 := hk _ _ n40 rfl
        replace n43 := hk _ _ n43 rfl
        replace n45 := hk _ _ n45 rfl
        replace n48 := hk _ _ n48 rfl
        have n13 := n13'
        replace hI := hI'
        clear hk hI' n13'
        obtain ⟨act9, rfl⟩ : ∃ x, x = a' := ⟨_, rfl⟩
        rw [show World.alloc wo _ = nw from hwe]
        refine Rest.same (d' := [0, 3, 5, 8, 2, 7, 11, 1, 4, 6, 9]) ?_ (by kernel_rfl)
        rw [← hR]
        exact st4x2x7x11 a1 k1 a2 k2 a3 k3 bb bk dd dk ee ek wo.heap.size _ _ hI n40 n43 n45 n48 n13 hT1 hS1 hq1
    have st1x2x7x10x11 : ∀ (a1 : Option Addr) (k1 : Nat) (a2 : Option Addr) (k2 : Nat) (a3 : Option Addr) (k3 : Nat) (bn : Nat) (en : Nat) (xg : Nat) (xh : Nat) (ac : Act) (wo : World), Kept (11 :: 12 :: 13 :: 14 :: List.range' 39 10) a0 ac → At ac 40 (.agg #[.int .i64 p.fr, .slice a1 p.tn k1, .int .i64 p.sd, .int .i64 p.ck, .slice a2 p.an k2, .slice a3 p.sn k3, .int .i64 p.bu]) → At ac 42 (.slice wa m wk) → At ac 41 (.slice (some ⟨bn, 0, none⟩) 0 0) → At ac 44 (.agg #[.slice a n c]) → At ac 47 (.slice la ln lc) → At ac 46 (.slice (some ⟨en, 0, none⟩) 0 0) → At ac 11 (.pointer (some ⟨xg, 0, none⟩)) → At ac 13 (.pointer (some ⟨xh, 0, none⟩)) → LSt W2.heap.size wo ⟨p, T, A, S, m, X, n, F, ln, L⟩ (some (a1, k1, a2, k2, a3, k3)) (some (some ⟨bn, 0, none⟩, 0, 0)) none (some (some ⟨en, 0, none⟩, 0, 0)) (some xg) (some xh) → (wo.heap[w.heap.size]? = some (planB p) ∧ wo.heap[w.heap.size + 1]? = some (wheelsB a n c)) → Below W2.heap.size W2 wo → R 7 [0, 3, 5, 8, 2, 7, 10, 11, 1] ac wo := by
      clear st4x2x7x10x11 st3x2x7x10x11 st4x2x7x10 st4x2x7x11 st3x2x7x10 st3x2x7x11 st3x2x10x11 st4x2x7
      intro a1 k1 a2 k2 a3 k3 bn en xg xh ac wo hI n40 n42 n41 n44 n47 n46 n11 n13 hT hS hq
      rw [hR]
      obtain ⟨bb, bk, nw, hr, hT1, hb1⟩ := hT.appB (HXX2.out.below hq) HG0.out.2.1 HM.out hq.size 22
      have hq1 := hq.trans hb1
      have hS1 : nw.heap[w.heap.size]? = some (planB p) ∧ nw.heap[w.heap.size + 1]? = some (wheelsB a n c) := ⟨heap_lft HX2.out hq1, heap_lft HY2.out hq1⟩
      refine rest_only (k := 4) (by kernel_rfl) (op_value (k := 4) (d := 43) (v := .slice bb m bk) hI rfl rfl (by kernel_rfl) (Nat.lt_of_le_of_lt (by decide) hsz) (wanted_free rfl) (exec_append (.tmp 41) (.tmp 42) 22 22 rfl n41.eval n42.eval (hr)) (fun a' hI' n43' hk => ⟨hS1, ?_⟩))
      replace n40 := hk _ _ n40 rfl
      replace n42 := hk _ _ n42 rfl
      replace n41 := hk _ _ n41 rfl
      replace n44 := hk _ _ n44 rfl
      replace n47 := hk _ _ n47 rfl
      replace n46 := hk _ _ n46 rfl
      replace n11 := hk _ _ n11 rfl
      replace n13 := hk _ _ n13 rfl
      have n43 := n43'
      replace hI := hI'
      clear hk hI' n43'
      obtain ⟨act9, rfl⟩ : ∃ x, x = a' := ⟨_, rfl⟩
      refine Rest.same (d' := [0, 3, 5, 8, 2, 7, 10, 11, 1, 4]) ?_ (by kernel_rfl)
      rw [← hR]
      exact st2x2x7x10x11 a1 k1 a2 k2 a3 k3 bb bk en xg xh _ _ hI n40 n43 n44 n47 n46 n11 n13 hT1 hS1 hq1
    have st2x2x7x10 : ∀ (a1 : Option Addr) (k1 : Nat) (a2 : Option Addr) (k2 : Nat) (a3 : Option Addr) (k3 : Nat) (bb : Option Addr) (bk : Nat) (en : Nat) (xg : Nat) (ac : Act) (wo : World), Kept (11 :: 12 :: 13 :: 14 :: List.range' 39 10) a0 ac → At ac 40 (.agg #[.int .i64 p.fr, .slice a1 p.tn k1, .int .i64 p.sd, .int .i64 p.ck, .slice a2 p.an k2, .slice a3 p.sn k3, .int .i64 p.bu]) → At ac 43 (.slice bb m bk) → At ac 44 (.agg #[.slice a n c]) → At ac 47 (.slice la ln lc) → At ac 46 (.slice (some ⟨en, 0, none⟩) 0 0) → At ac 11 (.pointer (some ⟨xg, 0, none⟩)) → LSt W2.heap.size wo ⟨p, T, A, S, m, X, n, F, ln, L⟩ (some (a1, k1, a2, k2, a3, k3)) (some (bb, m, bk)) none (some (some ⟨en, 0, none⟩, 0, 0)) (some xg) none → (wo.heap[w.heap.size]? = some (planB p) ∧ wo.heap[w.heap.size + 1]? = some (wheelsB a n c)) → Below W2.heap.size W2 wo → R 7 [0, 3, 5, 8, 2, 7, 10, 1, 4] ac wo := by
      clear st4x2x7x10x11 st3x2x7x10x11 st4x2x7x10 st4x2x7x11 st3x2x7x11 st3x2x10x11 st4x2x7 st1x2x7x10x11
      intro a1 k1 a2 k2 a3 k3 bb bk en xg ac wo hI n40 n43 n44 n47 n46 n11 hT hS hq
      rw [hR]
      refine rest_split [6, 11] (by kernel_rfl) rfl (fun i9 hi9 => ?_)
      have hi9' : i9 = 6 ∨ i9 = 11 := by simpa using hi9
      clear hi9
      rcases hi9' with rfl | rfl
      · refine _root_.id (op_call (k := 6) (d := 45) (R := fun v w' => ∃ dd dk, v = .agg #[.slice dd n dk] ∧ OwnNums w' wo.heap.size 3 1 dd n dk F ∧ Below wo.heap.size wo w') hI rfl rfl (by kernel_rfl) (Nat.lt_of_le_of_lt (by decide) hsz) (wanted_free rfl) ((rTwin_any a n c F (by have := HS.out; omega) HG0.out.2.2.1 _ (HFF2.out.below hq)).mono fun e w' g => by obtain ⟨d1, k1, h1, h2, h3⟩ := g; exact ⟨_, h1, d1, k1, rfl, h2, h3⟩) (by have e44 := n44; have f44 := n44.eval; unfold At at e44; simp [go_sem, e44]) ?_)
        intro v w' a' hR' hI' n45' hk
        obtain ⟨dd, dk, rfl, h1, hb⟩ := hR'
        have hT1 := hT.setD hb hq.size h1
        refine ⟨(And.intro (heap_lft hS.1 hb) (heap_lft hS.2 hb)), ?_⟩
        replace n40 := hk _ _ n40 rfl
        replace n43 := hk _ _ n43 rfl
        replace n44 := hk _ _ n44 rfl
        replace n47 := hk _ _ n47 rfl
        replace n46 := hk _ _ n46 rfl
        replace n11 := hk _ _ n11 rfl
        have n45 := n45'
        replace hI := hI'
        clear hk hI' n45'
        obtain ⟨act9, rfl⟩ : ∃ x, x = a' := ⟨_, rfl⟩
        have hS1 := (And.intro (heap_lft hS.1 hb) (heap_lft hS.2 hb))
        have hq1 := below_thn hq hb
        refine Rest.same (d' := [0, 3, 5, 8, 2, 7, 10, 1, 4, 6]) ?_ (by kernel_rfl)
        rw [← hR]
        exact st3x2x7x10 a1 k1 a2 k2 a3 k3 bb bk dd dk en xg _ _ hI n40 n43 n45 n47 n46 n11 hT1 hS1 hq1
      · have hn1 := below_new wo (wheelsB none 0 0)
        have hT1 := hT.newH hq.size
        have hS1 : (wo.alloc (wheelsB none 0 0)).heap[w.heap.size]? = some (planB p) ∧ (wo.alloc (wheelsB none 0 0)).heap[w.heap.size + 1]? = some (wheelsB a n c) := (And.intro (heap_lft hS.1 hn1) (heap_lft hS.2 hn1))
        have hq1 := below_thn hq hn1
        obtain ⟨nw, hwe⟩ : ∃ y, wo.alloc (wheelsB none 0 0) = y := ⟨_, rfl⟩
        rw [hwe] at hn1 hT1 hS1 hq1
        refine _root_.id (op_value (k := 11) (d := 13) (v := .pointer (some ⟨wo.heap.size, 0, none⟩)) hI rfl rfl (by kernel_rfl) (Nat.lt_of_le_of_lt (by decide) hsz) (wanted_free rfl) (by simp [go_sem]; try rfl) (fun a' hI' n13' hk => ⟨by rw [show _ = nw from hwe]; exact hS1, ?_⟩))
        replace n40 := hk _ _ n40 rfl
        replace n43 := hk _ _ n43 rfl
        replace n44 := hk _ _ n44 rfl
        replace n47 := hk _ _ n47 rfl
        replace n46 := hk _ _ n46 rfl
        replace n11 := hk _ _ n11 rfl
        have n13 := n13'
        replace hI := hI'
        clear hk hI' n13'
        obtain ⟨act9, rfl⟩ : ∃ x, x = a' := ⟨_, rfl⟩
        rw [show World.alloc wo _ = nw from hwe]
        refine Rest.same (d' := [0, 3, 5, 8, 2, 7, 10, 11, 1, 4]) ?_ (by kernel_rfl)
        rw [← hR]
        exact st2x2x7x10x11 a1 k1 a2 k2 a3 k3 bb bk en xg wo.heap.size _ _ hI n40 n43 n44 n47 n46 n11 n13 hT1 hS1 hq1
    have st2x2x7x11 : ∀ (a1 : Option Addr) (k1 : Nat) (a2 : Option Addr) (k2 : Nat) (a3 : Option Addr) (k3 : Nat) (bb : Option Addr) (bk : Nat) (en : Nat) (xh : Nat) (ac : Act) (wo : World), Kept (11 :: 12 :: 13 :: 14 :: List.range' 39 10) a0 ac → At ac 40 (.agg #[.int .i64 p.fr, .slice a1 p.tn k1, .int .i64 p.sd, .int .i64 p.ck, .slice a2 p.an k2, .slice a3 p.sn k3, .int .i64 p.bu]) → At ac 43 (.slice bb m bk) → At ac 44 (.agg #[.slice a n c]) → At ac 47 (.slice la ln lc) → At ac 46 (.slice (some ⟨en, 0, none⟩) 0 0) → At ac 13 (.pointer (some ⟨xh, 0, none⟩)) → LSt W2.heap.size wo ⟨p, T, A, S, m, X, n, F, ln, L⟩ (some (a1, k1, a2, k2, a3, k3)) (some (bb, m, bk)) none (some (some ⟨en, 0, none⟩, 0, 0)) none (some xh) → (wo.heap[w.heap.size]? = some (planB p) ∧ wo.heap[w.heap.size + 1]? = some (wheelsB a n c)) → Below W2.heap.size W2 wo → R 7 [0, 3, 5, 8, 2, 7, 11, 1, 4] ac wo := by
      clear st4x2x7x10x11 st3x2x7x10x11 st4x2x7x10 st4x2x7x11 st3x2x7x10 st3x2x10x11 st4x2x7 st1x2x7x10x11 st2x2x7x10
      intro a1 k1 a2 k2 a3 k3 bb bk en xh ac wo hI n40 n43 n44 n47 n46 n13 hT hS hq
      rw [hR]
      refine rest_split [6, 10] (by kernel_rfl) rfl (fun i9 hi9 => ?_)
      have hi9' : i9 = 6 ∨ i9 = 10 := by simpa using hi9
      clear hi9
      rcases hi9' with rfl | rfl
      · refine _root_.id (op_call (k := 6) (d := 45) (R := fun v w' => ∃ dd dk, v = .agg #[.slice dd n dk] ∧ OwnNums w' wo.heap.size 3 1 dd n dk F ∧ Below wo.heap.size wo w') hI rfl rfl (by kernel_rfl) (Nat.lt_of_le_of_lt (by decide) hsz) (wanted_free rfl) ((rTwin_any a n c F (by have := HS.out; omega) HG0.out.2.2.1 _ (HFF2.out.below hq)).mono fun e w' g => by obtain ⟨d1, k1, h1, h2, h3⟩ := g; exact ⟨_, h1, d1, k1, rfl, h2, h3⟩) (by have e44 := n44; have f44 := n44.eval; unfold At at e44; simp [go_sem, e44]) ?_)
        intro v w' a' hR' hI' n45' hk
        obtain ⟨dd, dk, rfl, h1, hb⟩ := hR'
        have hT1 := hT.setD hb hq.size h1
        refine ⟨(And.intro (heap_lft hS.1 hb) (heap_lft hS.2 hb)), ?_⟩
        replace n40 := hk _ _ n40 rfl
        replace n43 := hk _ _ n43 rfl
        replace n44 := hk _ _ n44 rfl
        replace n47 := hk _ _ n47 rfl
        replace n46 := hk _ _ n46 rfl
        replace n13 := hk _ _ n13 rfl
        have n45 := n45'
        replace hI := hI'
        clear hk hI' n45'
        obtain ⟨act9, rfl⟩ : ∃ x, x = a' := ⟨_, rfl⟩
        have hS1 := (And.intro (heap_lft hS.1 hb) (heap_lft hS.2 hb))
        have hq1 := below_thn hq hb
        refine Rest.same (d' := [0, 3, 5, 8, 2, 7, 11, 1, 4, 6]) ?_ (by kernel_rfl)
        rw [← hR]
        exact st3x2x7x11 a1 k1 a2 k2 a3 k3 bb bk dd dk en xh _ _ hI n40 n43 n45 n47 n46 n13 hT1 hS1 hq1
      · have hn1 := below_new wo (planB noPlan)
        have hT1 := hT.newG hq.size
        have hS1 : (wo.alloc (planB noPlan)).heap[w.heap.size]? = some (planB p) ∧ (wo.alloc (planB noPlan)).heap[w.heap.size + 1]? = some (wheelsB a n c) := (And.intro (heap_lft hS.1 hn1) (heap_lft hS.2 hn1))
        have hq1 := below_thn hq hn1
        obtain ⟨nw, hwe⟩ : ∃ y, wo.alloc (planB noPlan) = y := ⟨_, rfl⟩
        rw [hwe] at hn1 hT1 hS1 hq1
        refine _root_.id (op_value (k := 10) (d := 11) (v := .pointer (some ⟨wo.heap.size, 0, none⟩)) hI rfl rfl (by kernel_rfl) (Nat.lt_of_le_of_lt (by decide) hsz) (wanted_free rfl) (by simp [go_sem]; try rfl) (fun a' hI' n11' hk => ⟨by rw [show _ = nw from hwe]; exact hS1, ?_⟩))
        replace n40 := hk _ _ n40 rfl
        replace n43 := hk _ _ n43 rfl
        replace n44 := hk _ _ n44 rfl
        replace n47 := hk _ _ n47 rfl
        replace n46 := hk _ _ n46 rfl
        replace n13 := hk _ _ n13 rfl
        have n11 := n11'
        replace hI := hI'
        clear hk hI' n11'
        obtain ⟨act9, rfl⟩ : ∃ x, x = a' := ⟨_, rfl⟩
        rw [show World.alloc wo _ = nw from hwe]
        refine Rest.same (d' := [0, 3, 5, 8, 2, 7, 10, 11, 1, 4]) ?_ (by kernel_rfl)
        rw [← hR]
        exact st2x2x7x10x11 a1 k1 a2 k2 a3 k3 bb bk en wo.heap.size xh _ _ hI n40 n43 n44 n47 n46 n11 n13 hT1 hS1 hq1
    have st2x2x10x11 : ∀ (a1 : Option Addr) (k1 : Nat) (a2 : Option Addr) (k2 : Nat) (a3 : Option Addr) (k3 : Nat) (bb : Option Addr) (bk : Nat) (xg : Nat) (xh : Nat) (ac : Act) (wo : World), Kept (11 :: 12 :: 13 :: 14 :: List.range' 39 10) a0 ac → At ac 40 (.agg #[.int .i64 p.fr, .slice a1 p.tn k1, .int .i64 p.sd, .int .i64 p.ck, .slice a2 p.an k2, .slice a3 p.sn k3, .int .i64 p.bu]) → At ac 43 (.slice bb m bk) → At ac 44 (.agg #[.slice a n c]) → At ac 47 (.slice la ln lc) → At ac 11 (.pointer (some ⟨xg, 0, none⟩)) → At ac 13 (.pointer (some ⟨xh, 0, none⟩)) → LSt W2.heap.size wo ⟨p, T, A, S, m, X, n, F, ln, L⟩ (some (a1, k1, a2, k2, a3, k3)) (some (bb, m, bk)) none none (some xg) (some xh) → (wo.heap[w.heap.size]? = some (planB p) ∧ wo.heap[w.heap.size + 1]? = some (wheelsB a n c)) → Below W2.heap.size W2 wo → R 7 [0, 3, 5, 8, 2, 10, 11, 1, 4] ac wo := by
      clear st4x2x7x10x11 st3x2x7x10x11 st4x2x7x10 st4x2x7x11 st3x2x7x10 st3x2x7x11 st4x2x7 st1x2x7x10x11 st2x2x7x10 st2x2x7x11
      intro a1 k1 a2 k2 a3 k3 bb bk xg xh ac wo hI n40 n43 n44 n47 n11 n13 hT hS hq
      rw [hR]
      refine rest_split [6, 7] (by kernel_rfl) rfl (fun i9 hi9 => ?_)
      have hi9' : i9 = 6 ∨ i9 = 7 := by simpa using hi9
      clear hi9
      rcases hi9' with rfl | rfl
      · refine _root_.id (op_call (k := 6) (d := 45) (R := fun v w' => ∃ dd dk, v = .agg #[.slice dd n dk] ∧ OwnNums w' wo.heap.size 3 1 dd n dk F ∧ Below wo.heap.size wo w') hI rfl rfl (by kernel_rfl) (Nat.lt_of_le_of_lt (by decide) hsz) (wanted_free rfl) ((rTwin_any a n c F (by have := HS.out; omega) HG0.out.2.2.1 _ (HFF2.out.below hq)).mono fun e w' g => by obtain ⟨d1, k1, h1, h2, h3⟩ := g; exact ⟨_, h1, d1, k1, rfl, h2, h3⟩) (by have e44 := n44; have f44 := n44.eval; unfold At at e44; simp [go_sem, e44]) ?_)
        intro v w' a' hR' hI' n45' hk
        obtain ⟨dd, dk, rfl, h1, hb⟩ := hR'
        have hT1 := hT.setD hb hq.size h1
        refine ⟨(And.intro (heap_lft hS.1 hb) (heap_lft hS.2 hb)), ?_⟩
        replace n40 := hk _ _ n40 rfl
        replace n43 := hk _ _ n43 rfl
        replace n44 := hk _ _ n44 rfl
        replace n47 := hk _ _ n47 rfl
        replace n11 := hk _ _ n11 rfl
        replace n13 := hk _ _ n13 rfl
        have n45 := n45'
        replace hI := hI'
        clear hk hI' n45'
        obtain ⟨act9, rfl⟩ : ∃ x, x = a' := ⟨_, rfl⟩
        have hS1 := (And.intro (heap_lft hS.1 hb) (heap_lft hS.2 hb))
        have hq1 := below_thn hq hb
        refine Rest.same (d' := [0, 3, 5, 8, 2, 10, 11, 1, 4, 6]) ?_ (by kernel_rfl)
        rw [← hR]
        exact st3x2x10x11 a1 k1 a2 k2 a3 k3 bb bk dd dk xg xh _ _ hI n40 n43 n45 n47 n11 n13 hT1 hS1 hq1
      · have hn1 := below_new wo (.cells #[] 63)
        have hT1 := hT.newE hq.size
        have hS1 : (wo.alloc (.cells #[] 63)).heap[w.heap.size]? = some (planB p) ∧ (wo.alloc (.cells #[] 63)).heap[w.heap.size + 1]? = some (wheelsB a n c) := (And.intro (heap_lft hS.1 hn1) (heap_lft hS.2 hn1))
        have hq1 := below_thn hq hn1
        obtain ⟨nw, hwe⟩ : ∃ y, wo.alloc (.cells #[] 63) = y := ⟨_, rfl⟩
        rw [hwe] at hn1 hT1 hS1 hq1
        refine _root_.id (op_value (k := 7) (d := 46) (v := .slice (some ⟨wo.heap.size, 0, none⟩) 0 0) hI rfl rfl (by kernel_rfl) (Nat.lt_of_le_of_lt (by decide) hsz) (wanted_free rfl) (by simp [go_sem]; try rfl) (fun a' hI' n46' hk => ⟨by rw [hwe]; exact hS1, ?_⟩))
        replace n40 := hk _ _ n40 rfl
        replace n43 := hk _ _ n43 rfl
        replace n44 := hk _ _ n44 rfl
        replace n47 := hk _ _ n47 rfl
        replace n11 := hk _ _ n11 rfl
        replace n13 := hk _ _ n13 rfl
        have n46 := n46'
        replace hI := hI'
        clear hk hI' n46'
        obtain ⟨act9, rfl⟩ : ∃ x, x = a' := ⟨_, rfl⟩
        rw [hwe]
        refine Rest.same (d' := [0, 3, 5, 8, 2, 7, 10, 11, 1, 4]) ?_ (by kernel_rfl)
        rw [← hR]
        exact st2x2x7x10x11 a1 k1 a2 k2 a3 k3 bb bk wo.heap.size xg xh _ _ hI n40 n43 n44 n47 n46 n11 n13 hT1 hS1 hq1
    have st3x2x7 : ∀ (a1 : Option Addr) (k1 : Nat) (a2 : Option Addr) (k2 : Nat) (a3 : Option Addr) (k3 : Nat) (bb : Option Addr) (bk : Nat) (dd : Option Addr) (dk : Nat) (en : Nat) (ac : Act) (wo : World), Kept (11 :: 12 :: 13 :: 14 :: List.range' 39 10) a0 ac → At ac 40 (.agg #[.int .i64 p.fr, .slice a1 p.tn k1, .int .i64 p.sd, .int .i64 p.ck, .slice a2 p.an k2, .slice a3 p.sn k3, .int .i64 p.bu]) → At ac 43 (.slice bb m bk) → At ac 45 (.agg #[.slice dd n dk]) → At ac 47 (.slice la ln lc) → At ac 46 (.slice (some ⟨en, 0, none⟩) 0 0) → LSt W2.heap.size wo ⟨p, T, A, S, m, X, n, F, ln, L⟩ (some (a1, k1, a2, k2, a3, k3)) (some (bb, m, bk)) (some (dd, dk)) (some (some ⟨en, 0, none⟩, 0, 0)) none none → (wo.heap[w.heap.size]? = some (planB p) ∧ wo.heap[w.heap.size + 1]? = some (wheelsB a n c)) → Below W2.heap.size W2 wo → R 7 [0, 3, 5, 8, 2, 7, 1, 4, 6] ac wo := by
      clear st4x2x7x10x11 st3x2x7x10x11 st4x2x7x10 st4x2x7x11 st2x2x7x10x11 st3x2x10x11 st1x2x7x10x11 st2x2x7x10 st2x2x7x11 st2x2x10x11
      intro a1 k1 a2 k2 a3 k3 bb bk dd dk en ac wo hI n40 n43 n45 n47 n46 hT hS hq
      rw [hR]
      refine rest_split [9, 10, 11] (by kernel_rfl) rfl (fun i9 hi9 => ?_)
      have hi9' : i9 = 9 ∨ i9 = 10 ∨ i9 = 11 := by simpa using hi9
      clear hi9
      rcases hi9' with rfl | rfl | rfl
      · obtain ⟨ee, ek, nw, hr, hT1, hb1⟩ := hT.appE (HLL2.out.below hq) HG0.out.2.2.2.1 HS.out.2 hq.size 29
        have hq1 := hq.trans hb1
        have hS1 : nw.heap[w.heap.size]? = some (planB p) ∧ nw.heap[w.heap.size + 1]? = some (wheelsB a n c) := ⟨heap_lft HX2.out hq1, heap_lft HY2.out hq1⟩
        refine _root_.id (op_value (k := 9) (d := 48) (v := .slice ee ln ek) hI rfl rfl (by kernel_rfl) (Nat.lt_of_le_of_lt (by decide) hsz) (wanted_free rfl) (exec_append (.tmp 46) (.tmp 47) 29 29 rfl n46.eval n47.eval (hr)) (fun a' hI' n48' hk => ⟨hS1, ?_⟩))
        replace n40 := hk _ _ n40 rfl
        replace n43 := hk _ _ n43 rfl
        replace n45 := hk _ _ n45 rfl
        replace n47 := hk _ _ n47 rfl
        replace n46 := hk _ _ n46 rfl
        have n48 := n48'
        replace hI := hI'
        clear hk hI' n48'
        obtain ⟨act9, rfl⟩ : ∃ x, x = a' := ⟨_, rfl⟩
        refine Rest.same (d' := [0, 3, 5, 8, 2, 7, 1, 4, 6, 9]) ?_ (by kernel_rfl)
        rw [← hR]
        exact st4x2x7 a1 k1 a2 k2 a3 k3 bb bk dd dk ee ek _ _ hI n40 n43 n45 n48 hT1 hS1 hq1
      · have hn1 := below_new wo (planB noPlan)
        have hT1 := hT.newG hq.size
        have hS1 : (wo.alloc (planB noPlan)).heap[w.heap.size]? = some (planB p) ∧ (wo.alloc (planB noPlan)).heap[w.heap.size + 1]? = some (wheelsB a n c) := (And.intro (heap_lft hS.1 hn1) (heap_lft hS.2 hn1))
        have hq1 := below_thn hq hn1
        obtain ⟨nw, hwe⟩ : ∃ y, wo.alloc (planB noPlan) = y := ⟨_, rfl⟩
        rw [hwe] at hn1 hT1 hS1 hq1
        refine _root_.id (op_value (k := 10) (d := 11) (v := .pointer (some ⟨wo.heap.size, 0, none⟩)) hI rfl rfl (by kernel_rfl) (Nat.lt_of_le_of_lt (by decide) hsz) (wanted_free rfl) (by simp [go_sem]; try rfl) (fun a' hI' n11' hk => ⟨by rw [show _ = nw from hwe]; exact hS1, ?_⟩))
        replace n40 := hk _ _ n40 rfl
        replace n43 := hk _ _ n43 rfl
        replace n45 := hk _ _ n45 rfl
        replace n47 := hk _ _ n47 rfl
        replace n46 := hk _ _ n46 rfl
        have n11 := n11'
        replace hI := hI'
        clear hk hI' n11'
        obtain ⟨act9, rfl⟩ : ∃ x, x = a' := ⟨_, rfl⟩
        rw [show World.alloc wo _ = nw from hwe]
        refine Rest.same (d' := [0, 3, 5, 8, 2, 7, 10, 1, 4, 6]) ?_ (by kernel_rfl)
        rw [← hR]
        exact st3x2x7x10 a1 k1 a2 k2 a3 k3 bb bk dd dk en wo.heap.size _ _ hI n40 n43 n45 n47 n46 n11 hT1 hS1 hq1
      · have hn1 := below_new wo (wheelsB none 0 0)
        have hT1 := hT.newH hq.size
        have hS1 : (wo.alloc (wheelsB none 0 0)).heap[w.heap.size]? = some (planB p) ∧ (wo.alloc (wheelsB none 0 0)).heap[w.heap.size + 1]? = some (wheelsB a n c) := (And.intro (heap_lft hS.1 hn1) (heap_lft hS.2 hn1))
        have hq1 := below_thn hq hn1
        obtain ⟨nw, hwe⟩ : ∃ y, wo.alloc (wheelsB none 0 0) = y := ⟨_, rfl⟩
        rw [hwe] at hn1 hT1 hS1 hq1
        refine _root_.id (op_value (k := 11) (d := 13) (v := .pointer (some ⟨wo.heap.size, 0, none⟩)) hI rfl rfl (by kernel_rfl) (Nat.lt_of_le_of_lt (by decide) hsz) (wanted_free rfl) (by simp [go_sem]; try rfl) (fun a' hI' n13' hk => ⟨by rw [show _ = nw from hwe]; exact hS1, ?_⟩))
        replace n40 := hk _ _ n40 rfl
        replace n43 := hk _ _ n43 rfl
        replace n45 := hk _ _ n45 rfl
        replace n47 := hk _ _ n47 rfl
        replace n46 := hk _ _ n46 rfl
        have n13 := n13'
        replace hI := hI'
        clear hk hI' n13'
        obtain ⟨act9, rfl⟩ : ∃ x, x = a' := ⟨_, rfl⟩
        rw [show World.alloc wo _ = nw from hwe]
        refine Rest.same (d' := [0, 3, 5, 8, 2, 7, 11, 1, 4, 6]) ?_ (by kernel_rfl)
        rw [← hR]
        exact st3x2x7x11 a1 k1 a2 k2 a3 k3 bb bk dd dk en wo.heap.size _ _ hI n40 n43 n45 n47 n46 n13 hT1 hS1 hq1
    have st3x2x10 : ∀ (a1 : Option Addr) (k1 : Nat) (a2 : Option Addr) (k2 : Nat) (a3 : Option Addr) (k3 : Nat) (bb : Option Addr) (bk : Nat) (dd : Option Addr) (dk : Nat) (xg : Nat) (ac : Act) (wo : World), Kept (11 :: 12 :: 13 :: 14 :: List.range' 39 10) a0 ac → At ac 40 (.agg #[.int .i64 p.fr, .slice a1 p.tn k1, .int .i64 p.sd, .int .i64 p.ck, .slice a2 p.an k2, .slice a3 p.sn k3, .int .i64 p.bu]) → At ac 43 (.slice bb m bk) → At ac 45 (.agg #[.slice dd n dk]) → At ac 47 (.slice la ln lc) → At ac 11 (.pointer (some ⟨xg, 0, none⟩)) → LSt W2.heap.size wo ⟨p, T, A, S, m, X, n, F, ln, L⟩ (some (a1, k1, a2, k2, a3, k3)) (some (bb, m, bk)) (some (dd, dk)) none (some xg) none → (wo.heap[w.heap.size]? = some (planB p) ∧ wo.heap[w.heap.size + 1]? = some (wheelsB a n c)) → Below W2.heap.size W2 wo → R 7 [0, 3, 5, 8, 2, 10, 1, 4, 6] ac wo := by
      clear st4x2x7x10x11 st3x2x7x10x11 st4x2x7x10 st4x2x7x11 st2x2x7x10x11 st3x2x7x11 st4x2x7 st1x2x7x10x11 st2x2x7x10 st2x2x7x11 st2x2x10x11 st3x2x7
      intro a1 k1 a2 k2 a3 k3 bb bk dd dk xg ac wo hI n40 n43 n45 n47 n11 hT hS hq
      rw [hR]
      refine rest_split [7, 11] (by kernel_rfl) rfl (fun i9 hi9 => ?_)
      have hi9' : i9 = 7 ∨ i9 = 11 := by simpa using hi9
      clear hi9
      rcases hi9' with rfl | rfl
      · have hn1 := below_new wo (.cells #[] 63)
        have hT1 := hT.newE hq.size
        have hS1 : (wo.alloc (.cells #[] 63)).heap[w.heap.size]? = some (planB p) ∧ (wo.alloc (.cells #[] 63)).heap[w.heap.size + 1]? = some (wheelsB a n c) := (And.intro (heap_lft hS.1 hn1) (heap_lft hS.2 hn1))
        have hq1 := below_thn hq hn1
        obtain ⟨nw, hwe⟩ : ∃ y, wo.alloc (.cells #[] 63) = y := ⟨_, rfl⟩
        rw [hwe] at hn1 hT1 hS1 hq1
        refine _root_.id (op_value (k := 7) (d := 46) (v := .slice (some ⟨wo.heap.size, 0, none⟩) 0 0) hI rfl rfl (by kernel_rfl) (Nat.lt_of_le_of_lt (by decide) hsz) (wanted_free rfl) (by simp [go_sem]; try rfl) (fun a' hI' n46' hk => ⟨by rw [hwe]; exact hS1, ?_⟩))
        replace n40 := hk _ _ n40 rfl
        replace n43 := hk _ _ n43 rfl
        replace n45 := hk _ _ n45 rfl
        replace n47 := hk _ _ n47 rfl
        replace n11 := hk _ _ n11 rfl
        have n46 := n46'
        replace hI := hI'
        clear hk hI' n46'
        obtain ⟨act9, rfl⟩ : ∃ x, x = a' := ⟨_, rfl⟩
        rw [hwe]
        refine Rest.same (d' := [0, 3, 5, 8, 2, 7, 10, 1, 4, 6]) ?_ (by kernel_rfl)
        rw [← hR]
        exact st3x2x7x10 a1 k1 a2 k2 a3 k3 bb bk dd dk wo.heap.size xg _ _ hI n40 n43 n45 n47 n46 n11 hT1 hS1 hq1
      · have hn1 := below_new wo (wheelsB none 0 0)
        have hT1 := hT.newH hq.size
        have hS1 : (wo.alloc (wheelsB none 0 0)).heap[w.heap.size]? = some (planB p) ∧ (wo.alloc (wheelsB none 0 0)).heap[w.heap.size + 1]? = some (wheelsB a n c) := (And.intro (heap_lft hS.1 hn1) (heap_lft hS.2 hn1))
        have hq1 := below_thn hq hn1
        obtain ⟨nw, hwe⟩ : ∃ y, wo.alloc (wheelsB none 0 0) = y := ⟨_, rfl⟩
        rw [hwe] at hn1 hT1 hS1 hq1
        refine _root_.id (op_value (k := 11) (d := 13) (v := .pointer (some ⟨wo.heap.size, 0, none⟩)) hI rfl rfl (by kernel_rfl) (Nat.lt_of_le_of_lt (by decide) hsz) (wanted_free rfl) (by simp [go_sem]; try rfl) (fun a' hI' n13' hk => ⟨by rw [show _ = nw from hwe]; exact hS1, ?_⟩))
        replace n40 := hk _ _ n40 rfl
        replace n43 := hk _ _ n43 rfl
        replace n45 := hk _ _ n45 rfl
        replace n47 := hk _ _ n47 rfl
        replace n11 := hk _ _ n11 rfl
        have n13 := n13'
        replace hI := hI'
        clear hk hI' n13'
        obtain ⟨act9, rfl⟩ : ∃ x, x = a' := ⟨_, rfl⟩
        rw [show World.alloc wo _ = nw from hwe]
        refine Rest.same (d' := [0, 3, 5, 8, 2, 10, 11, 1, 4, 6]) ?_ (by kernel_rfl)
        rw [← hR]
        exact st3x2x10x11 a1 k1 a2 k2 a3 k3 bb bk dd dk xg wo.heap.size _ _ hI n40 n43 n45 n47 n11 n13 hT1 hS1 hq1
    have st3x2x11 : ∀ (a1 : Option Addr) (k1 : Nat) (a2 : Option Addr) (k2 : Nat) (a3 : Option Addr) (k3 : Nat) (bb : Option Addr) (bk : Nat) (dd : Option Addr) (dk : Nat) (xh : Nat) (ac : Act) (wo : World), Kept (11 :: 12 :: 13 :: 14 :: List.range' 39 10) a0 ac → At ac 40 (.agg #[.int .i64 p.fr, .slice a1 p.tn k1, .int .i64 p.sd, .int .i64 p.ck, .slice a2 p.an k2, .slice a3 p.sn k3, .int .i64 p.bu]) → At ac 43 (.slice bb m bk) → At ac 45 (.agg #[.slice dd n dk]) → At ac 47 (.slice la ln lc) → At ac 13 (.pointer (some ⟨xh, 0, none⟩)) → LSt W2.heap.size wo ⟨p, T, A, S, m, X, n, F, ln, L⟩ (some (a1, k1, a2, k2, a3, k3)) (some (bb, m, bk)) (some (dd, dk)) none none (some xh) → (wo.heap[w.heap.size]? = some (planB p) ∧ wo.heap[w.heap.size + 1]? = some (wheelsB a n c)) → Below W2.heap.size W2 wo → R 7 [0, 3, 5, 8, 2, 11, 1, 4, 6] ac wo := by
      clear st4x2x7x10x11 st3x2x7x10x11 st4x2x7x10 st4x2x7x11 st2x2x7x10x11 st3x2x7x10 st4x2x7 st1x2x7x10x11 st2x2x7x10 st2x2x7x11 st2x2x10x11 st3x2x7 st3x2x10
      intro a1 k1 a2 k2 a3 k3 bb bk dd dk xh ac wo hI n40 n43 n45 n47 n13 hT hS hq
      rw [hR]
      refine rest_split [7, 10] (by kernel_rfl) rfl (fun i9 hi9 => ?_)
      have hi9' : i9 = 7 ∨ i9 = 10 := by simpa using hi9
      clear hi9
      rcases hi9' with rfl | rfl
      · have hn1 := below_new wo (.cells #[] 63)
        have hT1 := hT.newE hq.size
        have hS1 : (wo.alloc (.cells #[] 63)).heap[w.heap.size]? = some (planB p) ∧ (wo.alloc (.cells #[] 63)).heap[w.heap.size + 1]? = some (wheelsB a n c) := (And.intro (heap_lft hS.1 hn1) (heap_lft hS.2 hn1))
        have hq1 := below_thn hq hn1
        obtain ⟨nw, hwe⟩ : ∃ y, wo.alloc (.cells #[] 63) = y := ⟨_, rfl⟩
        rw [hwe] at hn1 hT1 hS1 hq1
        refine _root_.id (op_value (k := 7) (d := 46) (v := .slice (some ⟨wo.heap.size, 0, none⟩) 0 0) hI rfl rfl (by kernel_rfl) (Nat.lt_of_le_of_lt (by decide) hsz) (wanted_free rfl) (by simp [go_sem]; try rfl) (fun a' hI' n46' hk => ⟨by rw [hwe]; exact hS1, ?_⟩))
        replace n40 := hk _ _ n40 rfl
        replace n43 := hk _ _ n43 rfl
        replace n45 := hk _ _ n45 rfl
        replace n47 := hk _ _ n47 rfl
        replace n13 := hk _ _ n13 rfl
        have n46 := n46'
        replace hI := hI'
        clear hk hI' n46'
        obtain ⟨act9, rfl⟩ : ∃ x, x = a' := ⟨_, rfl⟩
        rw [hwe]
        refine Rest.same (d' := [0, 3, 5, 8, 2, 7, 11, 1, 4, 6]) ?_ (by kernel_rfl)
        rw [← hR]
        exact st3x2x7x11 a1 k1 a2 k2 a3 k3 bb bk dd dk wo.heap.size xh _ _ hI n40 n43 n45 n47 n46 n13 hT1 hS1 hq1
      · have hn1 := below_new wo (planB noPlan)
        have hT1 := hT.newG hq.size
        have hS1 : (wo.alloc (planB noPlan)).heap[w.heap.size]? = some (planB p) ∧ (wo.alloc (planB noPlan)).heap[w.heap.size + 1]? = some (wheelsB a n c) := (And.intro (heap_lft hS.1 hn1) (heap_lft hS.2 hn1))
        have hq1 := below_thn hq hn1
        obtain ⟨nw, hwe⟩ : ∃ y, wo.alloc (planB noPlan) = y := ⟨_, rfl⟩
        rw [hwe] at hn1 hT1 hS1 hq1
        refine _root_.id (op_value (k := 10) (d := 11) (v := .pointer (some ⟨wo.heap.size, 0, none⟩)) hI rfl rfl (by kernel_rfl) (Nat.lt_of_le_of_lt (by decide) hsz) (wanted_free rfl) (by simp [go_sem]; try rfl) (fun a' hI' n11' hk => ⟨by rw [show _ = nw from hwe]; exact hS1, ?_⟩))
        replace n40 := hk _ _ n40 rfl
        replace n43 := hk _ _ n43 rfl
        replace n45 := hk _ _ n45 rfl
        replace n47 := hk _ _ n47 rfl
        replace n13 := hk _ _ n13 rfl
        have n11 := n11'
        replace hI := hI'
        clear hk hI' n11'
        obtain ⟨act9, rfl⟩ : ∃ x, x = a' := ⟨_, rfl⟩
        rw [show World.alloc wo _ = nw from hwe]
        refine Rest.same (d' := [0, 3, 5, 8, 2, 10, 11, 1, 4, 6]) ?_ (by kernel_rfl)
        rw [← hR]
        exact st3x2x10x11 a1 k1 a2 k2 a3 k3 bb bk dd dk wo.heap.size xh _ _ hI n40 n43 n45 n47 n11 n13 hT1 hS1 hq1
    have st0x2x7x10x11 : ∀ (bn : Nat) (en : Nat) (xg : Nat) (xh : Nat) (ac : Act) (wo : World), Kept (11 :: 12 :: 13 :: 14 :: List.range' 39 10) a0 ac → At ac 39 (.agg #[.int .i64 p.fr, .slice p.ta p.tn p.tc, .int .i64 p.sd, .int .i64 p.ck, .slice p.aa p.an p.ac, .slice p.sa p.sn p.sc, .int .i64 p.bu]) → At ac 42 (.slice wa m wk) → At ac 41 (.slice (some ⟨bn, 0, none⟩) 0 0) → At ac 44 (.agg #[.slice a n c]) → At ac 47 (.slice la ln lc) → At ac 46 (.slice (some ⟨en, 0, none⟩) 0 0) → At ac 11 (.pointer (some ⟨xg, 0, none⟩)) → At ac 13 (.pointer (some ⟨xh, 0, none⟩)) → LSt W2.heap.size wo ⟨p, T, A, S, m, X, n, F, ln, L⟩ none (some (some ⟨bn, 0, none⟩, 0, 0)) none (some (some ⟨en, 0, none⟩, 0, 0)) (some xg) (some xh) → (wo.heap[w.heap.size]? = some (planB p) ∧ wo.heap[w.heap.size + 1]? = some (wheelsB a n c)) → Below W2.heap.size W2 wo → R 8 [0, 3, 5, 8, 2, 7, 10, 11] ac wo := by
      clear st4x2x7x10x11 st3x2x7x10x11 st4x2x7x10 st4x2x7x11 st2x2x7x10x11 st3x2x7x10 st3x2x7x11 st3x2x10x11 st4x2x7 st2x2x7x10 st2x2x7x11 st2x2x10x11 st3x2x7 st3x2x10 st3x2x11
      intro bn en xg xh ac wo hI n39 n42 n41 n44 n47 n46 n11 n13 hT hS hq
      rw [hR]
      refine rest_only (k := 1) (by kernel_rfl) (op_call (k := 1) (d := 40) (R := fun v w' => ∃ a1 k1 a2 k2 a3 k3, v = .agg #[.int .i64 p.fr, .slice a1 p.tn k1, .int .i64 p.sd, .int .i64 p.ck, .slice a2 p.an k2, .slice a3 p.sn k3, .int .i64 p.bu] ∧ OwnPlan w' wo.heap.size (p.moved a1 k1 a2 k2 a3 k3) T A S ∧ Below wo.heap.size wo w') hI rfl rfl (by kernel_rfl) (Nat.lt_of_le_of_lt (by decide) hsz) (wanted_free rfl) ((twin_any p T A S (by have := HN.out; omega) (by have := HN.out; omega) (by have := HN.out; omega) _ (HP2.out.below hq)).mono fun e w' g => by obtain ⟨a1, k1, a2, k2, a3, k3, h1, h2, h3⟩ := g; exact ⟨_, h1, a1, k1, a2, k2, a3, k3, rfl, h2, h3⟩) (by have e39 := n39; have f39 := n39.eval; unfold At at e39; simp [go_sem, e39]) ?_)
      intro v w' a' hR' hI' n40' hk
      obtain ⟨a1, k1, a2, k2, a3, k3, rfl, h1, hb⟩ := hR'
      have hT1 := hT.setC hb hq.size h1
      refine ⟨(And.intro (heap_lft hS.1 hb) (heap_lft hS.2 hb)), ?_⟩
      replace n39 := hk _ _ n39 rfl
      replace n42 := hk _ _ n42 rfl
      replace n41 := hk _ _ n41 rfl
      replace n44 := hk _ _ n44 rfl
      replace n47 := hk _ _ n47 rfl
      replace n46 := hk _ _ n46 rfl
      replace n11 := hk _ _ n11 rfl
      replace n13 := hk _ _ n13 rfl
      have n40 := n40'
      replace hI := hI'
      clear hk hI' n40'
      obtain ⟨act9, rfl⟩ : ∃ x, x = a' := ⟨_, rfl⟩
      have hS1 := (And.intro (heap_lft hS.1 hb) (heap_lft hS.2 hb))
      have hq1 := below_thn hq hb
      refine Rest.same (d' := [0, 3, 5, 8, 2, 7, 10, 11, 1]) ?_ (by kernel_rfl)
      rw [← hR]
      exact st1x2x7x10x11 a1 k1 a2 k2 a3 k3 bn en xg xh _ _ hI n40 n42 n41 n44 n47 n46 n11 n13 hT1 hS1 hq1
    have st1x2x7x10 : ∀ (a1 : Option Addr) (k1 : Nat) (a2 : Option Addr) (k2 : Nat) (a3 : Option Addr) (k3 : Nat) (bn : Nat) (en : Nat) (xg : Nat) (ac : Act) (wo : World), Kept (11 :: 12 :: 13 :: 14 :: List.range' 39 10) a0 ac → At ac 40 (.agg #[.int .i64 p.fr, .slice a1 p.tn k1, .int .i64 p.sd, .int .i64 p.ck, .slice a2 p.an k2, .slice a3 p.sn k3, .int .i64 p.bu]) → At ac 42 (.slice wa m wk) → At ac 41 (.slice (some ⟨bn, 0, none⟩) 0 0) → At ac 44 (.agg #[.slice a n c]) → At ac 47 (.slice la ln lc) → At ac 46 (.slice (some ⟨en, 0, none⟩) 0 0) → At ac 11 (.pointer (some ⟨xg, 0, none⟩)) → LSt W2.heap.size wo ⟨p, T, A, S, m, X, n, F, ln, L⟩ (some (a1, k1, a2, k2, a3, k3)) (some (some ⟨bn, 0, none⟩, 0, 0)) none (some (some ⟨en, 0, none⟩, 0, 0)) (some xg) none → (wo.heap[w.heap.size]? = some (planB p) ∧ wo.heap[w.heap.size + 1]? = some (wheelsB a n c)) → Below W2.heap.size W2 wo → R 8 [0, 3, 5, 8, 2, 7, 10, 1] ac wo := by
      clear st4x2x7x10x11 st3x2x7x10x11 st4x2x7x10 st4x2x7x11 st2x2x7x10x11 st3x2x7x10 st3x2x7x11 st3x2x10x11 st4x2x7 st2x2x7x11 st2x2x10x11 st3x2x7 st3x2x10 st3x2x11 st0x2x7x10x11
      intro a1 k1 a2 k2 a3 k3 bn en xg ac wo hI n40 n42 n41 n44 n47 n46 n11 hT hS hq
      rw [hR]
      refine rest_split [4, 11] (by kernel_rfl) rfl (fun i9 hi9 => ?_)
      have hi9' : i9 = 4 ∨ i9 = 11 := by simpa using hi9
      clear hi9
      rcases hi9' with rfl | rfl
      · obtain ⟨bb, bk, nw, hr, hT1, hb1⟩ := hT.appB (HXX2.out.below hq) HG0.out.2.1 HM.out hq.size 22
        have hq1 := hq.trans hb1
        have hS1 : nw.heap[w.heap.size]? = some (planB p) ∧ nw.heap[w.heap.size + 1]? = some (wheelsB a n c) := ⟨heap_lft HX2.out hq1, heap_lft HY2.out hq1⟩
        refine _root_.id (op_value (k := 4) (d := 43) (v := .slice bb m bk) hI rfl rfl (by kernel_rfl) (Nat.lt_of_le_of_lt (by decide) hsz) (wanted_free rfl) (exec_append (.tmp 41) (.tmp 42) 22 22 rfl n41.eval n42.eval (hr)) (fun a' hI' n43' hk => ⟨hS1, ?_⟩))
        replace n40 := hk _ _ n40 rfl
        replace n42 := hk _ _ n42 rfl
        replace n41 := hk _ _ n41 rfl
        replace n44 := hk _ _ n44 rfl
        replace n47 := hk _ _ n47 rfl
        replace n46 := hk _ _ n46 rfl
        replace n11 := hk _ _ n11 rfl
        have n43 := n43'
        replace hI := hI'
        clear hk hI' n43'
        obtain ⟨act9, rfl⟩ : ∃ x, x = a' := ⟨_, rfl⟩
        refine Rest.same (d' := [0, 3, 5, 8, 2, 7, 10, 1, 4]) ?_ (by kernel_rfl)
        rw [← hR]
        exact st2x2x7x10 a1 k1 a2 k2 a3 k3 bb bk en xg _ _ hI n40 n43 n44 n47 n46 n11 hT1 hS1 hq1
      · have hn1 := below_new wo (wheelsB none 0 0)
        have hT1 := hT.newH hq.size
        have hS1 : (wo.alloc (wheelsB none 0 0)).heap[w.heap.size]? = some (planB p) ∧ (wo.alloc (wheelsB none 0 0)).heap[w.heap.size + 1]? = some (wheelsB a n c) := (And.intro (heap_lft hS.1 hn1) (heap_lft hS.2 hn1))
        have hq1 := below_thn hq hn1
        obtain ⟨nw, hwe⟩ : ∃ y, wo.alloc (wheelsB none 0 0) = y := ⟨_, rfl⟩
        rw [hwe] at hn1 hT1 hS1 hq1
        refine _root_.id (op_value (k := 11) (d := 13) (v := .pointer (some ⟨wo.heap.size, 0, none⟩)) hI rfl rfl (by kernel_rfl) (Nat.lt_of_le_of_lt (by decide) hsz) (wanted_free rfl) (by simp [go_sem]; try rfl) (fun a' hI' n13' hk => ⟨by rw [show _ = nw from hwe]; exact hS1, ?_⟩))
        replace n40 := hk _ _ n40 rfl
        replace n42 := hk _ _ n42 rfl
        replace n41 := hk _ _ n41 rfl
        replace n44 := hk _ _ n44 rfl
        replace n47 := hk _ _ n47 rfl
        replace n46 := hk _ _ n46 rfl
        replace n11 := hk _ _ n11 rfl
        have n13 := n13'
        replace hI := hI'
        clear hk hI' n13'
        obtain ⟨act9, rfl⟩ : ∃ x, x = a' := ⟨_, rfl⟩
        rw [show World.alloc wo _ = nw from hwe]
        refine Rest.same (d' := [0, 3, 5, 8, 2, 7, 10, 11, 1]) ?_ (by kernel_rfl)
        rw [← hR]
        exact st1x2x7x10x11 a1 k1 a2 k2 a3 k3 bn en xg wo.heap.size _ _ hI n40 n42 n41 n44 n47 n46 n11 n13 hT1 hS1 hq1
    have st1x2x7x11 : ∀ (a1 : Option Addr) (k1 : Nat) (a2 : Option Addr) (k2 : Nat) (a3 : Option Addr) (k3 : Nat) (bn : Nat) (en : Nat) (xh : Nat) (ac : Act) (wo : World), Kept (11 :: 12 :: 13 :: 14 :: List.range' 39 10) a0 ac → At ac 40 (.agg #[.int .i64 p.fr, .slice a1 p.tn k1, .int .i64 p.sd, .int .i64 p.ck, .slice a2 p.an k2, .slice a3 p.sn k3, .int .i64 p.bu]) → At ac 42 (.slice wa m wk) → At ac 41 (.slice (some ⟨bn, 0, none⟩) 0 0) → At ac 44 (.agg #[.slice a n c]) → At ac 47 (.slice la ln lc) → At ac 46 (.slice (some ⟨en, 0, none⟩) 0 0) → At ac 13 (.pointer (some ⟨xh, 0, none⟩)) → LSt W2.heap.size wo ⟨p, T, A, S, m, X, n, F, ln, L⟩ (some (a1, k1, a2, k2, a3, k3)) (some (some ⟨bn, 0, none⟩, 0, 0)) none (some (some ⟨en, 0, none⟩, 0, 0)) none (some xh) → (wo.heap[w.heap.size]? = some (planB p) ∧ wo.heap[w.heap.size + 1]? = some (wheelsB a n c)) → Below W2.heap.size W2 wo → R 8 [0, 3, 5, 8, 2, 7, 11, 1] ac wo := by
      clear st4x2x7x10x11 st3x2x7x10x11 st4x2x7x10 st4x2x7x11 st2x2x7x10x11 st3x2x7x10 st3x2x7x11 st3x2x10x11 st4x2x7 st2x2x7x10 st2x2x10x11 st3x2x7 st3x2x10 st3x2x11 st0x2x7x10x11 st1x2x7x10
      intro a1 k1 a2 k2 a3 k3 bn en xh ac wo hI n40 n42 n41 n44 n47 n46 n13 hT hS hq
      rw [hR]
      refine rest_split [4, 10] (by kernel_rfl) rfl (fun i9 hi9 => ?_)
      have hi9' : i9 = 4 ∨ i9 = 10 := by simpa using hi9
      clear hi9
      rcases hi9' with rfl | rfl
      · obtain ⟨bb, bk, nw, hr, hT1, hb1⟩ := hT.appB (HXX2.out.below hq) HG0.out.2.1 HM.out hq.size 22
        have hq1 := hq.trans hb1
        have hS1 : nw.heap[w.heap.size]? = some (planB p) ∧ nw.heap[w.heap.size + 1]? = some (wheelsB a n c) := ⟨heap_lft HX2.out hq1, heap_lft HY2.out hq1⟩
        refine _root_.id (op_value (k := 4) (d := 43) (v := .slice bb m bk) hI rfl rfl (by kernel_rfl) (Nat.lt_of_le_of_lt (by decide) hsz) (wanted_free rfl) (exec_append (.tmp 41) (.tmp 42) 22 22 rfl n41.eval n42.eval (hr)) (fun a' hI' n43' hk => ⟨hS1, ?_⟩))
        replace n40 := hk _ _ n40 rfl
        replace n42 := hk _ _ n42 rfl
        replace n41 := hk _ _ n41 rfl
        replace n44 := hk _ _ n44 rfl
        replace n47 := hk _ _ n47 rfl
        replace n46 := hk _ _ n46 rfl
        replace n13 := hk _ _ n13 rfl
        have n43 := n43'
        replace hI := hI'
        clear hk hI' n43'
        obtain ⟨act9, rfl⟩ : ∃ x, x = a' := ⟨_, rfl⟩
        refine Rest.same (d' := [0, 3, 5, 8, 2, 7, 11, 1, 4]) ?_ (by kernel_rfl)
        rw [← hR]
        exact st2x2x7x11 a1 k1 a2 k2 a3 k3 bb bk en xh _ _ hI n40 n43 n44 n47 n46 n13 hT1 hS1 hq1
      · have hn1 := below_new wo (planB noPlan)
        have hT1 := hT.newG hq.size
        have hS1 : (wo.alloc (planB noPlan)).heap[w.heap.size]? = some (planB p) ∧ (wo.alloc (planB noPlan)).heap[w.heap.size + 1]? = some (wheelsB a n c) := (And.intro (heap_lft hS.1 hn1) (heap_lft hS.2 hn1))
        have hq1 := below_thn hq hn1
        obtain ⟨nw, hwe⟩ : ∃ y, wo.alloc (planB noPlan) = y := ⟨_, rfl⟩
        rw [hwe] at hn1 hT1 hS1 hq1
        refine _root_.id (op_value (k := 10) (d := 11) (v := .pointer (some ⟨wo.heap.size, 0, none⟩)) hI rfl rfl (by kernel_rfl) (Nat.lt_of_le_of_lt (by decide) hsz) (wanted_free rfl) (by simp [go_sem]; try rfl) (fun a' hI' n11' hk => ⟨by rw [show _ = nw from hwe]; exact hS1, ?_⟩))
        replace n40 := hk _ _ n40 rfl
        replace n42 := hk _ _ n42 rfl
        replace n41 := hk _ _ n41 rfl
        replace n44 := hk _ _ n44 rfl
        replace n47 := hk _ _ n47 rfl
        replace n46 := hk _ _ n46 rfl
        replace n13 := hk _ _ n13 rfl
        have n11 := n11'
        replace hI := hI'
        clear hk hI' n11'
        obtain ⟨act9, rfl⟩ : ∃ x, x = a' := ⟨_, rfl⟩
        rw [show World.alloc wo _ = nw from hwe]
        refine Rest.same (d' := [0, 3, 5, 8, 2, 7, 10, 11, 1]) ?_ (by kernel_rfl)
        rw [← hR]
        exact st1x2x7x10x11 a1 k1 a2 k2 a3 k3 bn en wo.heap.size xh _ _ hI n40 n42 n41 n44 n47 n46 n11 n13 hT1 hS1 hq1
    have st1x2x10x11 : ∀ (a1 : Option Addr) (k1 : Nat) (a2 : Option Addr) (k2 : Nat) (a3 : Option Addr) (k3 : Nat) (bn : Nat) (xg : Nat) (xh : Nat) (ac : Act) (wo : World), Kept (11 :: 12 :: 13 :: 14 :: List.range' 39 10) a0 ac → At ac 40 (.agg #[.int .i64 p.fr, .slice a1 p.tn k1, .int .i64 p.sd, .int .i64 p.ck, .slice a2 p.an k2, .slice a3 p.sn k3, .int .i64 p.bu]) → At ac 42 (.slice wa m wk) → At ac 41 (.slice (some ⟨bn, 0, none⟩) 0 0) → At ac 44 (.agg #[.slice a n c]) → At ac 47 (.slice la ln lc) → At ac 11 (.pointer (some ⟨xg, 0, none⟩)) → At ac 13 (.pointer (some ⟨xh, 0, none⟩)) → LSt W2.heap.size wo ⟨p, T, A, S, m, X, n, F, ln, L⟩ (some (a1, k1, a2, k2, a3, k3)) (some (some ⟨bn, 0, none⟩, 0, 0)) none none (some xg) (some xh) → (wo.heap[w.heap.size]? = some (planB p) ∧ wo.heap[w.heap.size + 1]? = some (wheelsB a n c)) → Below W2.heap.size W2 wo → R 8 [0, 3, 5, 8, 2, 10, 11, 1] ac wo := by
      clear st4x2x7x10x11 st3x2x7x10x11 st4x2x7x10 st4x2x7x11 st2x2x7x10x11 st3x2x7x10 st3x2x7x11 st3x2x10x11 st4x2x7 st2x2x7x10 st2x2x7x11 st3x2x7 st3x2x10 st3x2x11 st0x2x7x10x11 st1x2x7x10 st1x2x7x11
      intro a1 k1 a2 k2 a3 k3 bn xg xh ac wo hI n40 n42 n41 n44 n47 n11 n13 hT hS hq
      rw [hR]
      refine rest_split [4, 7] (by kernel_rfl) rfl (fun i9 hi9 => ?_)
      have hi9' : i9 = 4 ∨ i9 = 7 := by simpa using hi9
      clear hi9
      rcases hi9' with rfl | rfl
      · obtain ⟨bb, bk, nw, hr, hT1, hb1⟩ := hT.appB (HXX2.out.below hq) HG0.out.2.1 HM.out hq.size 22
        have hq1 := hq.trans hb1
        have hS1 : nw.heap[w.heap.size]? = some (planB p) ∧ nw.heap[w.heap.size + 1]? = some (wheelsB a n c) := ⟨heap_lft HX2.out hq1, heap_lft HY2.out hq1⟩
        refine _root_.id (op_value (k := 4) (d := 43) (v := .slice bb m bk) hI rfl rfl (by kernel_rfl) (Nat.lt_of_le_of_lt (by decide) hsz) (wanted_free rfl) (exec_append (.tmp 41) (.tmp 42) 22 22 rfl n41.eval n42.eval (hr)) (fun a' hI' n43' hk => ⟨hS1, ?_⟩))
        replace n40 := hk _ _ n40 rfl
        replace n42 := hk _ _ n42 rfl
        replace n41 := hk _ _ n41 rfl
        replace n44 := hk _ _ n44 rfl
        replace n47 := hk _ _ n47 rfl
        replace n11 := hk _ _ n11 rfl
        replace n13 := hk _ _ n13 rfl
        have n43 := n43'
        replace hI := hI'
        clear hk hI' n43'
        obtain ⟨act9, rfl⟩ : ∃ x, x = a' := ⟨_, rfl⟩
        refine Rest.same (d' := [0, 3, 5, 8, 2, 10, 11, 1, 4]) ?_ (by kernel_rfl)
        rw [← hR]
        exact st2x2x10x11 a1 k1 a2 k2 a3 k3 bb bk xg xh _ _ hI n40 n43 n44 n47 n11 n13 hT1 hS1 hq1
      · have hn1 := below_new wo (.cells #[] 63)
        have hT1 := hT.newE hq.size
        have hS1 : (wo.alloc (.cells #[] 63)).heap[w.heap.size]? = some (planB p) ∧ (wo.alloc (.cells #[] 63)).heap[w.heap.size + 1]? = some (wheelsB a n c) := (And.intro (heap_lft hS.1 hn1) (heap_lft hS.2 hn1))
        have hq1 := below_thn hq hn1
        obtain ⟨nw, hwe⟩ : ∃ y, wo.alloc (.cells #[] 63) = y := ⟨_, rfl⟩
        rw [hwe] at hn1 hT1 hS1 hq1
        refine _root_.id (op_value (k := 7) (d := 46) (v := .slice (some ⟨wo.heap.size, 0, none⟩) 0 0) hI rfl rfl (by kernel_rfl) (Nat.lt_of_le_of_lt (by decide) hsz) (wanted_free rfl) (by simp [go_sem]; try rfl) (fun a' hI' n46' hk => ⟨by rw [hwe]; exact hS1, ?_⟩))
        replace n40 := hk _ _ n40 rfl
        replace n42 := hk _ _ n42 rfl
        replace n41 := hk _ _ n41 rfl
        replace n44 := hk _ _ n44 rfl
        replace n47 := hk _ _ n47 rfl
        replace n11 := hk _ _ n11 rfl
        replace n13 := hk _ _ n13 rfl
        have n46 := n46'
        replace hI := hI'
        clear hk hI' n46'
        obtain ⟨act9, rfl⟩ : ∃ x, x = a' := ⟨_, rfl⟩
        rw [hwe]
        refine Rest.same (d' := [0, 3, 5, 8, 2, 7, 10, 11, 1]) ?_ (by kernel_rfl)
        rw [← hR]
        exact st1x2x7x10x11 a1 k1 a2 k2 a3 k3 bn wo.heap.size xg xh _ _ hI n40 n42 n41 n44 n47 n46 n11 n13 hT1 hS1 hq1
    have st1x7x10x11 : ∀ (a1 : Option Addr) (k1 : Nat) (a2 : Option Addr) (k2 : Nat) (a3 : Option Addr) (k3 : Nat) (en : Nat) (xg : Nat) (xh : Nat) (ac : Act) (wo : World), Kept (11 :: 12 :: 13 :: 14 :: List.range' 39 10) a0 ac → At ac 40 (.agg #[.int .i64 p.fr, .slice a1 p.tn k1, .int .i64 p.sd, .int .i64 p.ck, .slice a2 p.an k2, .slice a3 p.sn k3, .int .i64 p.bu]) → At ac 42 (.slice wa m wk) → At ac 44 (.agg #[.slice a n c]) → At ac 47 (.slice la ln lc) → At ac 46 (.slice (some ⟨en, 0, none⟩) 0 0) → At ac 11 (.pointer (some ⟨xg, 0, none⟩)) → At ac 13 (.pointer (some ⟨xh, 0, none⟩)) → LSt W2.heap.size wo ⟨p, T, A, S, m, X, n, F, ln, L⟩ (some (a1, k1, a2, k2, a3, k3)) none none (some (some ⟨en, 0, none⟩, 0, 0)) (some xg) (some xh) → (wo.heap[w.heap.size]? = some (planB p) ∧ wo.heap[w.heap.size + 1]? = some (wheelsB a n c)) → Below W2.heap.size W2 wo → R 8 [0, 3, 5, 8, 7, 10, 11, 1] ac wo := by
      clear st4x2x7x10x11 st3x2x7x10x11 st4x2x7x10 st4x2x7x11 st2x2x7x10x11 st3x2x7x10 st3x2x7x11 st3x2x10x11 st4x2x7 st2x2x7x10 st2x2x7x11 st2x2x10x11 st3x2x7 st3x2x10 st3x2x11 st0x2x7x10x11 st1x2x7x10 st1x2x7x11 st1x2x10x11
      intro a1 k1 a2 k2 a3 k3 en xg xh ac wo hI n40 n42 n44 n47 n46 n11 n13 hT hS hq
      rw [hR]
      have hn1 := below_new wo (.cells #[] 3)
      have hT1 := hT.newB hq.size
      have hS1 : (wo.alloc (.cells #[] 3)).heap[w.heap.size]? = some (planB p) ∧ (wo.alloc (.cells #[] 3)).heap[w.heap.size + 1]? = some (wheelsB a n c) := (And.intro (heap_lft hS.1 hn1) (heap_lft hS.2 hn1))
      have hq1 := below_thn hq hn1
      obtain ⟨nw, hwe⟩ : ∃ y, wo.alloc (.cells #[] 3) = y := ⟨_, rfl⟩
      rw [hwe] at hn1 hT1 hS1 hq1
      refine rest_only (k := 2) (by kernel_rfl) (op_value (k := 2) (d := 41) (v := .slice (some ⟨wo.heap.size, 0, none⟩) 0 0) hI rfl rfl (by kernel_rfl) (Nat.lt_of_le_of_lt (by decide) hsz) (wanted_free rfl) (by simp [go_sem]; try rfl) (fun a' hI' n41' hk => ⟨by rw [hwe]; exact hS1, ?_⟩))
      replace n40 := hk _ _ n40 rfl
      replace n42 := hk _ _ n42 rfl
      replace n44 := hk _ _ n44 rfl
      replace n47 := hk _ _ n47 rfl
      replace n46 := hk _ _ n46 rfl
      replace n11 := hk _ _ n11 rfl
      replace n13 := hk _ _ n13 rfl
      have n41 := n41'
      replace hI := hI'
      clear hk hI' n41'
      obtain ⟨act9, rfl⟩ : ∃ x, x = a' := ⟨_, rfl⟩
      rw [hwe]
      refine Rest.same (d' := [0, 3, 5, 8, 2, 7, 10, 11, 1]) ?_ (by kernel_rfl)
      rw [← hR]
      exact st1x2x7x10x11 a1 k1 a2 k2 a3 k3 wo.heap.size en xg xh _ _ hI n40 n42 n41 n44 n47 n46 n11 n13 hT1 hS1 hq1
    have st2x2x7 : ∀ (a1 : Option Addr) (k1 : Nat) (a2 : Option Addr) (k2 : Nat) (a3 : Option Addr) (k3 : Nat) (bb : Option Addr) (bk : Nat) (en : Nat) (ac : Act) (wo : World), Kept (11 :: 12 :: 13 :: 14 :: List.range' 39 10) a0 ac → At ac 40 (.agg #[.int .i64 p.fr, .slice a1 p.tn k1, .int .i64 p.sd, .int .i64 p.ck, .slice a2 p.an k2, .slice a3 p.sn k3, .int .i64 p.bu]) → At ac 43 (.slice bb m bk) → At ac 44 (.agg #[.slice a n c]) → At ac 47 (.slice la ln lc) → At ac 46 (.slice (some ⟨en, 0, none⟩) 0 0) → LSt W2.heap.size wo ⟨p, T, A, S, m, X, n, F, ln, L⟩ (some (a1, k1, a2, k2, a3, k3)) (some (bb, m, bk)) none (some (some ⟨en, 0, none⟩, 0, 0)) none none → (wo.heap[w.heap.size]? = some (planB p) ∧ wo.heap[w.heap.size + 1]? = some (wheelsB a n c)) → Below W2.heap.size W2 wo → R 8 [0, 3, 5, 8, 2, 7, 1, 4] ac wo := by
      clear st4x2x7x10x11 st3x2x7x10x11 st4x2x7x10 st4x2x7x11 st2x2x7x10x11 st3x2x7x10 st3x2x7x11 st3x2x10x11 st4x2x7 st1x2x7x10x11 st2x2x10x11 st3x2x10 st3x2x11 st0x2x7x10x11 st1x2x7x10 st1x2x7x11 st1x2x10x11 st1x7x10x11
      intro a1 k1 a2 k2 a3 k3 bb bk en ac wo hI n40 n43 n44 n47 n46 hT hS hq
      rw [hR]
      refine rest_split [6, 10, 11] (by kernel_rfl) rfl (fun i9 hi9 => ?_)
      have hi9' : i9 = 6 ∨ i9 = 10 ∨ i9 = 11 := by simpa using hi9
      clear hi9
      rcases hi9' with rfl | rfl | rfl
      · refine _root_.id (op_call (k := 6) (d := 45) (R := fun v w' => ∃ dd dk, v = .agg #[.slice dd n dk] ∧ OwnNums w' wo.heap.size 3 1 dd n dk F ∧ Below wo.heap.size wo w') hI rfl rfl (by kernel_rfl) (Nat.lt_of_le_of_lt (by decide) hsz) (wanted_free rfl) ((rTwin_any a n c F (by have := HS.out; omega) HG0.out.2.2.1 _ (HFF2.out.below hq)).mono fun e w' g => by obtain ⟨d1, k1, h1, h2, h3⟩ := g; exact ⟨_, h1, d1, k1, rfl, h2, h3⟩) (by have e44 := n44; have f44 := n44.eval; unfold At at e44; simp [go_sem, e44]) ?_)
        intro v w' a' hR' hI' n45' hk
        obtain ⟨dd, dk, rfl, h1, hb⟩ := hR'
        have hT1 := hT.setD hb hq.size h1
        refine ⟨(And.intro (heap_lft hS.1 hb) (heap_lft hS.2 hb)), ?_⟩
        replace n40 := hk _ _ n40 rfl
        replace n43 := hk _ _ n43 rfl
        replace n44 := hk _ _ n44 rfl
        replace n47 := hk _ _ n47 rfl
        replace n46 := hk _ _ n46 rfl
        have n45 := n45'
        replace hI := hI'
        clear hk hI' n45'
        obtain ⟨act9, rfl⟩ : ∃ x, x = a' := ⟨_, rfl⟩
        have hS1 := (And.intro (heap_lft hS.1 hb) (heap_lft hS.2 hb))
        have hq1 := below_thn hq hb
        refine Rest.same (d' := [0, 3, 5, 8, 2, 7, 1, 4, 6]) ?_ (by kernel_rfl)
        rw [← hR]
        exact st3x2x7 a1 k1 a2 k2 a3 k3 bb bk dd dk en _ _ hI n40 n43 n45 n47 n46 hT1 hS1 hq1
      · have hn1 := below_new wo (planB noPlan)
        have hT1 := hT.newG hq.size
        have hS1 : (wo.alloc (planB noPlan)).heap[w.heap.size]? = some (planB p) ∧ (wo.alloc (planB noPlan)).heap[w.heap.size + 1]? = some (wheelsB a n c) := (And.intro (heap_lft hS.1 hn1) (heap_lft hS.2 hn1))
        have hq1 := below_thn hq hn1
        obtain ⟨nw, hwe⟩ : ∃ y, wo.alloc (planB noPlan) = y := ⟨_, rfl⟩
        rw [hwe] at hn1 hT1 hS1 hq1
        refine _root_.id (op_value (k := 10) (d := 11) (v := .pointer (some ⟨wo.heap.size, 0, none⟩)) hI rfl rfl (by kernel_rfl) (Nat.lt_of_le_of_lt (by decide) hsz) (wanted_free rfl) (by simp [go_sem]; try rfl) (fun a' hI' n11' hk => ⟨by rw [show _ = nw from hwe]; exact hS1, ?_⟩))
        replace n40 := hk _ _ n40 rfl
        replace n43 := hk _ _ n43 rfl
        replace n44 := hk _ _ n44 rfl
        replace n47 := hk _ _ n47 rfl
        replace n46 := hk _ _ n46 rfl
        have n11 := n11'
        replace hI := hI'
        clear hk hI' n11'
        obtain ⟨act9, rfl⟩ : ∃ x, x = a' := ⟨_, rfl⟩
        rw [show World.alloc wo _ = nw from hwe]
        refine Rest.same (d' := [0, 3, 5, 8, 2, 7, 10, 1, 4]) ?_ (by kernel_rfl)
        rw [← hR]
        exact st2x2x7x10 a1 k1 a2 k2 a3 k3 bb bk en wo.heap.size _ _ hI n40 n43 n44 n47 n46 n11 hT1 hS1 hq1
      · have hn1 := below_new wo (wheelsB none 0 0)
        have hT1 := hT.newH hq.size
        have hS1 : (wo.alloc (wheelsB none 0 0)).heap[w.heap.size]? = some (planB p) ∧ (wo.alloc (wheelsB none 0 0)).heap[w.heap.size + 1]? = some (wheelsB a n c) := (And.intro (heap_lft hS.1 hn1) (heap_lft hS.2 hn1))
        have hq1 := below_thn hq hn1
        obtain ⟨nw, hwe⟩ : ∃ y, wo.alloc (wheelsB none 0 0) = y := ⟨_, rfl⟩
        rw [hwe] at hn1 hT1 hS1 hq1
        refine _root_.id (op_value (k := 11) (d := 13) (v := .pointer (some ⟨wo.heap.size, 0, none⟩)) hI rfl rfl (by kernel_rfl) (Nat.lt_of_le_of_lt (by decide) hsz) (wanted_free rfl) (by simp [go_sem]; try rfl) (fun a' hI' n13' hk => ⟨by rw [show _ = nw from hwe]; exact hS1, ?_⟩))
        replace n40 := hk _ _ n40 rfl
        replace n43 := hk _ _ n43 rfl
        replace n44 := hk _ _ n44 rfl
        replace n47 := hk _ _ n47 rfl
        replace n46 := hk _ _ n46 rfl
        have n13 := n13'
        replace hI := hI'
        clear hk hI' n13'
        obtain ⟨act9, rfl⟩ : ∃ x, x = a' := ⟨_, rfl⟩
        rw [show World.alloc wo _ = nw from hwe]
        refine Rest.same (d' := [0, 3, 5, 8, 2, 7, 11, 1, 4]) ?_ (by kernel_rfl)
        rw [← hR]
        exact st2x2x7x11 a1 k1 a2 k2 a3 k3 bb bk en wo.heap.size _ _ hI n40 n43 n44 n47 n46 n13 hT1 hS1 hq1
    have st2x2x10 : ∀ (a1 : Option Addr) (k1 : Nat) (a2 : Option Addr) (k2 : Nat) (a3 : Option Addr) (k3 : Nat) (bb : Option Addr) (bk : Nat) (xg : Nat) (ac : Act) (wo : World), Kept (11 :: 12 :: 13 :: 14 :: List.range' 39 10) a0 ac → At ac 40 (.agg #[.int .i64 p.fr, .slice a1 p.tn k1, .int .i64 p.sd, .int .i64 p.ck, .slice a2 p.an k2, .slice a3 p.sn k3, .int .i64 p.bu]) → At ac 43 (.slice bb m bk) → At ac 44 (.agg #[.slice a n c]) → At ac 47 (.slice la ln lc) → At ac 11 (.pointer (some ⟨xg, 0, none⟩)) → LSt W2.heap.size wo ⟨p, T, A, S, m, X, n, F, ln, L⟩ (some (a1, k1, a2, k2, a3, k3)) (some (bb, m, bk)) none none (some xg) none → (wo.heap[w.heap.size]? = some (planB p) ∧ wo.heap[w.heap.size + 1]? = some (wheelsB a n c)) → Below W2.heap.size W2 wo → R 8 [0, 3, 5, 8, 2, 10, 1, 4] ac wo := by
      clear st4x2x7x10x11 st3x2x7x10x11 st4x2x7x10 st4x2x7x11 st2x2x7x10x11 st3x2x7x10 st3x2x7x11 st3x2x10x11 st4x2x7 st1x2x7x10x11 st2x2x7x11 st3x2x7 st3x2x11 st0x2x7x10x11 st1x2x7x10 st1x2x7x11 st1x2x10x11 st1x7x10x11 st2x2x7
      intro a1 k1 a2 k2 a3 k3 bb bk xg ac wo hI n40 n43 n44 n47 n11 hT hS hq
      rw [hR]
      refine rest_split [6, 7, 11] (by kernel_rfl) rfl (fun i9 hi9 => ?_)
      have hi9' : i9 = 6 ∨ i9 = 7 ∨ i9 = 11 := by simpa using hi9
      clear hi9
      rcases hi9' with rfl | rfl | rfl
      · refine _root_.id (op_call (k := 6) (d := 45) (R := fun v w' => ∃ dd dk, v = .agg #[.slice dd n dk] ∧ OwnNums w' wo.heap.size 3 1 dd n dk F ∧ Below wo.heap.size wo w') hI rfl rfl (by kernel_rfl) (Nat.lt_of_le_of_lt (by decide) hsz) (wanted_free rfl) ((rTwin_any a n c F (by have := HS.out; omega) HG0.out.2.2.1 _ (HFF2.out.below hq)).mono fun e w' g => by obtain ⟨d1, k1, h1, h2, h3⟩ := g; exact ⟨_, h1, d1, k1, rfl, h2, h3⟩) (by have e44 := n44; have f44 := n44.eval; unfold At at e44; simp [go_sem, e44]) ?_)
        intro v w' a' hR' hI' n45' hk
        obtain ⟨dd, dk, rfl, h1, hb⟩ := hR'
        have hT1 := hT.setD hb hq.size h1
        refine ⟨(And.intro (heap_lft hS.1 hb) (heap_lft hS.2 hb)), ?_⟩
        replace n40 := hk _ _ n40 rfl
        replace n43 := hk _ _ n43 rfl
        replace n44 := hk _ _ n44 rfl
        replace n47 := hk _ _ n47 rfl
        replace n11 := hk _ _ n11 rfl
        have n45 := n45'
        replace hI := hI'
        clear hk hI' n45'
        obtain ⟨act9, rfl⟩ : ∃ x, x = a' := ⟨_, rfl⟩
        have hS1 := (And.intro (heap_lft hS.1 hb) (heap_lft hS.2 hb))
        have hq1 := below_thn hq hb
        refine Rest.same (d' := [0, 3, 5, 8, 2, 10, 1, 4, 6]) ?_ (by kernel_rfl)
        rw [← hR]
        exact st3x2x10 a1 k1 a2 k2 a3 k3 bb bk dd dk xg _ _ hI n40 n43 n45 n47 n11 hT1 hS1 hq1
      · have hn1 := below_new wo (.cells #[] 63)
        have hT1 := hT.newE hq.size
        have hS1 : (wo.alloc (.cells #[] 63)).heap[w.heap.size]? = some (planB p) ∧ (wo.alloc (.cells #[] 63)).heap[w.heap.size + 1]? = some (wheelsB a n c) := (And.intro (heap_lft hS.1 hn1) (heap_lft hS.2 hn1))
        have hq1 := below_thn hq hn1
        obtain ⟨nw, hwe⟩ : ∃ y, wo.alloc (.cells #[] 63) = y := ⟨_, rfl⟩
        rw [hwe] at hn1 hT1 hS1 hq1
        refine _root_.id (op_value (k := 7) (d := 46) (v := .slice (some ⟨wo.heap.size, 0, none⟩) 0 0) hI rfl rfl (by kernel_rfl) (Nat.lt_of_le_of_lt (by decide) hsz) (wanted_free rfl) (by simp [go_sem]; try rfl) (fun a' hI' n46' hk => ⟨by rw [hwe]; exact hS1, ?_⟩))
        replace n40 := hk _ _ n40 rfl
        replace n43 := hk _ _ n43 rfl
        replace n44 := hk _ _ n44 rfl
        replace n47 := hk _ _ n47 rfl
        replace n11 := hk _ _ n11 rfl
        have n46 := n46'
        replace hI := hI'
        clear hk hI' n46'
        obtain ⟨act9, rfl⟩ : ∃ x, x = a' := ⟨_, rfl⟩
        rw [hwe]
        refine Rest.same (d' := [0, 3, 5, 8, 2, 7, 10, 1, 4]) ?_ (by kernel_rfl)
        rw [← hR]
        exact st2x2x7x10 a1 k1 a2 k2 a3 k3 bb bk wo.heap.size xg _ _ hI n40 n43 n44 n47 n46 n11 hT1 hS1 hq1
      · have hn1 := below_new wo (wheelsB none 0 0)
        have hT1 := hT.newH hq.size
        have hS1 : (wo.alloc (wheelsB none 0 0)).heap[w.heap.size]? = some (planB p) ∧ (wo.alloc (wheelsB none 0 0)).heap[w.heap.size + 1]? = some (wheelsB a n c) := (And.intro (heap_lft hS.1 hn1) (heap_lft hS.2 hn1))
        have hq1 := below_thn hq hn1
        obtain ⟨nw, hwe⟩ : ∃ y, wo.alloc (wheelsB none 0 0) = y := ⟨_, rfl⟩
        rw [hwe] at hn1 hT1 hS1 hq1
        refine _root_.id (op_value (k := 11) (d := 13) (v := .pointer (some ⟨wo.heap.size, 0, none⟩)) hI rfl rfl (by kernel_rfl) (Nat.lt_of_le_of_lt (by decide) hsz) (wanted_free rfl) (by simp [go_sem]; try rfl) (fun a' hI' n13' hk => ⟨by rw [show _ = nw from hwe]; exact hS1, ?_⟩))
        replace n40 := hk _ _ n40 rfl
        replace n43 := hk _ _ n43 rfl
        replace n44 := hk _ _ n44 rfl
        replace n47 := hk _ _ n47 rfl
        replace n11 := hk _ _ n11 rfl
        have n13 := n13'
        replace hI := hI'
        clear hk hI' n13'
        obtain ⟨act9, rfl⟩ : ∃ x, x = a' := ⟨_, rfl⟩
        rw [show World.alloc wo _ = nw from hwe]
        refine Rest.same (d' := [0, 3, 5, 8, 2, 10, 11, 1, 4]) ?_ (by kernel_rfl)
        rw [← hR]
        exact st2x2x10x11 a1 k1 a2 k2 a3 k3 bb bk xg wo.heap.size _ _ hI n40 n43 n44 n47 n11 n13 hT1 hS1 hq1
    have st2x2x11 : ∀ (a1 : Option Addr) (k1 : Nat) (a2 : Option Addr) (k2 : Nat) (a3 : Option Addr) (k3 : Nat) (bb : Option Addr) (bk : Nat) (xh : Nat) (ac : Act) (wo : World), Kept (11 :: 12 :: 13 :: 14 :: List.range' 39 10) a0 ac → At ac 40 (.agg #[.int .i64 p.fr, .slice a1 p.tn k1, .int .i64 p.sd, .int .i64 p.ck, .slice a2 p.an k2, .slice a3 p.sn k3, .int .i64 p.bu]) → At ac 43 (.slice bb m bk) → At ac 44 (.agg #[.slice a n c]) → At ac 47 (.slice la ln lc) → At ac 13 (.pointer (some ⟨xh, 0, none⟩)) → LSt W2.heap.size wo ⟨p, T, A, S, m, X, n, F, ln, L⟩ (some (a1, k1, a2, k2, a3, k3)) (some (bb, m, bk)) none none none (some xh) → (wo.heap[w.heap.size]? = some (planB p) ∧ wo.heap[w.heap.size + 1]? = some (wheelsB a n c)) → Below W2.heap.size W2 wo → R 8 [0, 3, 5, 8, 2, 11, 1, 4] ac wo := by
      clear st4x2x7x10x11 st3x2x7x10x11 st4x2x7x10 st4x2x7x11 st2x2x7x10x11 st3x2x7x10 st3x2x7x11 st3x2x10x11 st4x2x7 st1x2x7x10x11 st2x2x7x10 st3x2x7 st3x2x10 st0x2x7x10x11 st1x2x7x10 st1x2x7x11 st1x2x10x11 st1x7x10x11 st2x2x7 st2x2x10
      intro a1 k1 a2 k2 a3 k3 bb bk xh ac wo hI n40 n43 n44 n47 n13 hT hS hq
      rw [hR]
      refine rest_split [6, 7, 10] (by kernel_rfl) rfl (fun i9 hi9 => ?_)
      have hi9' : i9 = 6 ∨ i9 = 7 ∨ i9 = 10 := by simpa using hi9
      clear hi9
      rcases hi9' with rfl | rfl | rfl
      · refine _root_.id (op_call (k := 6) (d := 45) (R := fun v w' => ∃ dd dk, v = .agg #[.slice dd n dk] ∧ OwnNums w' wo.heap.size 3 1 dd n dk F ∧ Below wo.heap.size wo w') hI rfl rfl (by kernel_rfl) (Nat.lt_of_le_of_lt (by decide) hsz) (wanted_free rfl) ((rTwin_any a n c F (by have := HS.out; omega) HG0.out.2.2.1 _ (HFF2.out.below hq)).mono fun e w' g => by obtain ⟨d1, k1, h1, h2, h3⟩ := g; exact ⟨_, h1, d1, k1, rfl, h2, h3⟩) (by have e44 := n44; have f44 := n44.eval; unfold At at e44; simp [go_sem, e44]) ?_)
        intro v w' a' hR' hI' n45' hk
        obtain ⟨dd, dk, rfl, h1, hb⟩ := hR'
        have hT1 := hT.setD hb hq.size h1
        refine ⟨(And.intro (heap_lft hS.1 hb) (heap_lft hS.2 hb)), ?_⟩
        replace n40 := hk _ _ n40 rfl
        replace n43 := hk _ _ n43 rfl
        replace n44 := hk _ _ n44 rfl
        replace n47 := hk _ _ n47 rfl
        replace n13 := hk _ _ n13 rfl
        have n45 := n45'
        replace hI := hI'
        clear hk hI' n45'
        obtain ⟨act9, rfl⟩ : ∃ x, x = a' := ⟨_, rfl⟩
        have hS1 := (And.intro (heap_lft hS.1 hb) (heap_lft hS.2 hb))
        have hq1 := below_thn hq hb
        refine Rest.same (d' := [0, 3, 5, 8, 2, 11, 1, 4, 6]) ?_ (by kernel_rfl)
        rw [← hR]
        exact st3x2x11 a1 k1 a2 k2 a3 k3 bb bk dd dk xh _ _ hI n40 n43 n45 n47 n13 hT1 hS1 hq1
      · have hn1 := below_new wo (.cells #[] 63)
        have hT1 := hT.newE hq.size
        have hS1 : (wo.alloc (.cells #[] 63)).heap[w.heap.size]? = some (planB p) ∧ (wo.alloc (.cells #[] 63)).heap[w.heap.size + 1]? = some (wheelsB a n c) := (And.intro (heap_lft hS.1 hn1) (heap_lft hS.2 hn1))
        have hq1 := below_thn hq hn1
        obtain ⟨nw, hwe⟩ : ∃ y, wo.alloc (.cells #[] 63) = y := ⟨_, rfl⟩
        rw [hwe] at hn1 hT1 hS1 hq1
        refine _root_.id (op_value (k := 7) (d := 46) (v := .slice (some ⟨wo.heap.size, 0, none⟩) 0 0) hI rfl rfl (by kernel_rfl) (Nat.lt_of_le_of_lt (by decide) hsz) (wanted_free rfl) (by simp [go_sem]; try rfl) (fun a' hI' n46' hk => ⟨by rw [hwe]; exact hS1, ?_⟩))
        replace n40 := hk _ _ n40 rfl
        replace n43 := hk _ _ n43 rfl
        replace n44 := hk _ _ n44 rfl
        replace n47 := hk _ _ n47 rfl
        replace n13 := hk _ _ n13 rfl
        have n46 := n46'
        replace hI := hI'
        clear hk hI' n46'
        obtain ⟨act9, rfl⟩ : ∃ x, x = a' := ⟨_, rfl⟩
        rw [hwe]
        refine Rest.same (d' := [0, 3, 5, 8, 2, 7, 11, 1, 4]) ?_ (by kernel_rfl)
        rw [← hR]
        exact st2x2x7x11 a1 k1 a2 k2 a3 k3 bb bk wo.heap.size xh _ _ hI n40 n43 n44 n47 n46 n13 hT1 hS1 hq1
      · have hn1 := below_new wo (planB noPlan)
        have hT1 := hT.newG hq.size
        have hS1 : (wo.alloc (planB noPlan)).heap[w.heap.size]? = some (planB p) ∧ (wo.alloc (planB noPlan)).heap[w.heap.size + 1]? = some (wheelsB a n c) := (And.intro (heap_lft hS.1 hn1) (heap_lft hS.2 hn1))
        have hq1 := below_thn hq hn1
        obtain ⟨nw, hwe⟩ : ∃ y, wo.alloc (planB noPlan) = y := ⟨_, rfl⟩
        rw [hwe] at hn1 hT1 hS1 hq1
        refine _root_.id (op_value (k := 10) (d := 11) (v := .pointer (some ⟨wo.heap.size, 0, none⟩)) hI rfl rfl (by kernel_rfl) (Nat.lt_of_le_of_lt (by decide) hsz) (wanted_free rfl) (by simp [go_sem]; try rfl) (fun a' hI' n11' hk => ⟨by rw [show _ = nw from hwe]; exact hS1, ?_⟩))
        replace n40 := hk _ _ n40 rfl
        replace n43 := hk _ _ n43 rfl
        replace n44 := hk _ _ n44 rfl
        replace n47 := hk _ _ n47 rfl
        replace n13 := hk _ _ n13 rfl
        have n11 := n11'
        replace hI := hI'
        clear hk hI' n11'
        obtain ⟨act9, rfl⟩ : ∃ x, x = a' := ⟨_, rfl⟩
        rw [show World.alloc wo _ = nw from hwe]
        refine Rest.same (d' := [0, 3, 5, 8, 2, 10, 11, 1, 4]) ?_ (by kernel_rfl)
        rw [← hR]
        exact st2x2x10x11 a1 k1 a2 k2 a3 k3 bb bk wo.heap.size xh _ _ hI n40 n43 n44 n47 n11 n13 hT1 hS1 hq1
    have st3x2 : ∀ (a1 : Option Addr) (k1 : Nat) (a2 : Option Addr) (k2 : Nat) (a3 : Option Addr) (k3 : Nat) (bb : Option Addr) (bk : Nat) (dd : Option Addr) (dk : Nat) (ac : Act) (wo : World), Kept (11 :: 12 :: 13 :: 14 :: List.range' 39 10) a0 ac → At ac 40 (.agg #[.int .i64 p.fr, .slice a1 p.tn k1, .int .i64 p.sd, .int .i64 p.ck, .slice a2 p.an k2, .slice a3 p.sn k3, .int .i64 p.bu]) → At ac 43 (.slice bb m bk) → At ac 45 (.agg #[.slice dd n dk]) → At ac 47 (.slice la ln lc) → LSt W2.heap.size wo ⟨p, T, A, S, m, X, n, F, ln, L⟩ (some (a1, k1, a2, k2, a3, k3)) (some (bb, m, bk)) (some (dd, dk)) none none none → (wo.heap[w.heap.size]? = some (planB p) ∧ wo.heap[w.heap.size + 1]? = some (wheelsB a n c)) → Below W2.heap.size W2 wo → R 8 [0, 3, 5, 8, 2, 1, 4, 6] ac wo := by
      clear st4x2x7x10x11 st3x2x7x10x11 st4x2x7x10 st4x2x7x11 st2x2x7x10x11 st3x2x7x10 st3x2x7x11 st3x2x10x11 st4x2x7 st1x2x7x10x11 st2x2x7x10 st2x2x7x11 st2x2x10x11 st0x2x7x10x11 st1x2x7x10 st1x2x7x11 st1x2x10x11 st1x7x10x11 st2x2x7 st2x2x10 st2x2x11
      intro a1 k1 a2 k2 a3 k3 bb bk dd dk ac wo hI n40 n43 n45 n47 hT hS hq
      rw [hR]
      refine rest_split [7, 10, 11] (by kernel_rfl) rfl (fun i9 hi9 => ?_)
      have hi9' : i9 = 7 ∨ i9 = 10 ∨ i9 = 11 := by simpa using hi9
      clear hi9
      rcases hi9' with rfl | rfl | rfl
      · have hn1 := below_new wo (.cells #[] 63)
        have hT1 := hT.newE hq.size
        have hS1 : (wo.alloc (.cells #[] 63)).heap[w.heap.size]? = some (planB p) ∧ (wo.alloc (.cells #[] 63)).heap[w.heap.size + 1]? = some (wheelsB a n c) := (And.intro (heap_lft hS.1 hn1) (heap_lft hS.2 hn1))
        have hq1 := below_thn hq hn1
        obtain ⟨nw, hwe⟩ : ∃ y, wo.alloc (.cells #[] 63) = y := ⟨_, rfl⟩
        rw [hwe] at hn1 hT1 hS1 hq1
        refine _root_.id (op_value (k := 7) (d := 46) (v := .slice (some ⟨wo.heap.size, 0, none⟩) 0 0) hI rfl rfl (by kernel_rfl) (Nat.lt_of_le_of_lt (by decide) hsz) (wanted_free rfl) (by simp [go_sem]; try rfl) (fun a' hI' n46' hk => ⟨by rw [hwe]; exact hS1, ?_⟩))
        replace n40 := hk _ _ n40 rfl
        replace n43 := hk _ _ n43 rfl
        replace n45 := hk _ _ n45 rfl
        replace n47 := hk _ _ n47 rfl
        have n46 := n46'
        replace hI := hI'
        clear hk hI' n46'
        obtain ⟨act9, rfl⟩ : ∃ x, x = a' := ⟨_, rfl⟩
        rw [hwe]
        refine Rest.same (d' := [0, 3, 5, 8, 2, 7, 1, 4, 6]) ?_ (by kernel_rfl)
        rw [← hR]
        exact st3x2x7 a1 k1 a2 k2 a3 k3 bb bk dd dk wo.heap.size _ _ hI n40 n43 n45 n47 n46 hT1 hS1 hq1
      · have hn1 := below_new wo (planB noPlan)
        have hT1 := hT.newG hq.size
        have hS1 : (wo.alloc (planB noPlan)).heap[w.heap.size]? = some (planB p) ∧ (wo.alloc (planB noPlan)).heap[w.heap.size + 1]? = some (wheelsB a n c) := (And.intro (heap_lft hS.1 hn1) (heap_lft hS.2 hn1))
        have hq1 := below_thn hq hn1
        obtain ⟨nw, hwe⟩ : ∃ y, wo.alloc (planB noPlan) = y := ⟨_, rfl⟩
        rw [hwe] at hn1 hT1 hS1 hq1
        refine _root_.id (op_value (k := 10) (d := 11) (v := .pointer (some ⟨wo.heap.size, 0, none⟩)) hI rfl rfl (by kernel_rfl) (Nat.lt_of_le_of_lt (by decide) hsz) (wanted_free rfl) (by simp [go_sem]; try rfl) (fun a' hI' n11' hk => ⟨by rw [show _ = nw from hwe]; exact hS1, ?_⟩))
        replace n40 := hk _ _ n40 rfl
        replace n43 := hk _ _ n43 rfl
        replace n45 := hk _ _ n45 rfl
        replace n47 := hk _ _ n47 rfl
        have n11 := n11'
        replace hI := hI'
        clear hk hI' n11'
        obtain ⟨act9, rfl⟩ : ∃ x, x = a' := ⟨_, rfl⟩
        rw [show World.alloc wo _ = nw from hwe]
        refine Rest.same (d' := [0, 3, 5, 8, 2, 10, 1, 4, 6]) ?_ (by kernel_rfl)
        rw [← hR]
        exact st3x2x10 a1 k1 a2 k2 a3 k3 bb bk dd dk wo.heap.size _ _ hI n40 n43 n45 n47 n11 hT1 hS1 hq1
      · have hn1 := below_new wo (wheelsB none 0 0)
        have hT1 := hT.newH hq.size
        have hS1 : (wo.alloc (wheelsB none 0 0)).heap[w.heap.size]? = some (planB p) ∧ (wo.alloc (wheelsB none 0 0)).heap[w.heap.size + 1]? = some (wheelsB a n c) := (And.intro (heap_lft hS.1 hn1) (heap_lft hS.2 hn1))
        have hq1 := below_thn hq hn1
        obtain ⟨nw, hwe⟩ : ∃ y, wo.alloc (wheelsB none 0 0) = y := ⟨_, rfl⟩
        rw [hwe] at hn1 hT1 hS1 hq1
        refine _root_.id (op_value (k := 11) (d := 13) (v := .pointer (some ⟨wo.heap.size, 0, none⟩)) hI rfl rfl (by kernel_rfl) (Nat.lt_of_le_of_lt (by decide) hsz) (wanted_free rfl) (by simp [go_sem]; try rfl) (fun a' hI' n13' hk => ⟨by rw [show _ = nw from hwe]; exact hS1, ?_⟩))
        replace n40 := hk _ _ n40 rfl
        replace n43 := hk _ _ n43 rfl
        replace n45 := hk _ _ n45 rfl
        replace n47 := hk _ _ n47 rfl
        have n13 := n13'
        replace hI := hI'
        clear hk hI' n13'
        obtain ⟨act9, rfl⟩ : ∃ x, x = a' := ⟨_, rfl⟩
        rw [show World.alloc wo _ = nw from hwe]
        refine Rest.same (d' := [0, 3, 5, 8, 2, 11, 1, 4, 6]) ?_ (by kernel_rfl)
        rw [← hR]
        exact st3x2x11 a1 k1 a2 k2 a3 k3 bb bk dd dk wo.heap.size _ _ hI n40 n43 n45 n47 n13 hT1 hS1 hq1
    have st0x2x7x10 : ∀ (bn : Nat) (en : Nat) (xg : Nat) (ac : Act) (wo : World), Kept (11 :: 12 :: 13 :: 14 :: List.range' 39 10) a0 ac → At ac 39 (.agg #[.int .i64 p.fr, .slice p.ta p.tn p.tc, .int .i64 p.sd, .int .i64 p.ck, .slice p.aa p.an p.ac, .slice p.sa p.sn p.sc, .int .i64 p.bu]) → At ac 42 (.slice wa m wk) → At ac 41 (.slice (some ⟨bn, 0, none⟩) 0 0) → At ac 44 (.agg #[.slice a n c]) → At ac 47 (.slice la ln lc) → At ac 46 (.slice (some ⟨en, 0, none⟩) 0 0) → At ac 11 (.pointer (some ⟨xg, 0, none⟩)) → LSt W2.heap.size wo ⟨p, T, A, S, m, X, n, F, ln, L⟩ none (some (some ⟨bn, 0, none⟩, 0, 0)) none (some (some ⟨en, 0, none⟩, 0, 0)) (some xg) none → (wo.heap[w.heap.size]? = some (planB p) ∧ wo.heap[w.heap.size + 1]? = some (wheelsB a n c)) → Below W2.heap.size W2 wo → R 9 [0, 3, 5, 8, 2, 7, 10] ac wo := by
      clear st4x2x7x10x11 st3x2x7x10x11 st4x2x7x10 st4x2x7x11 st2x2x7x10x11 st3x2x7x10 st3x2x7x11 st3x2x10x11 st4x2x7 st1x2x7x10x11 st2x2x7x10 st2x2x7x11 st2x2x10x11 st3x2x7 st3x2x10 st3x2x11 st1x2x7x11 st1x2x10x11 st1x7x10x11 st2x2x7 st2x2x10 st2x2x11 st3x2
      intro bn en xg ac wo hI n39 n42 n41 n44 n47 n46 n11 hT hS hq
      rw [hR]
      refine rest_split [1, 11] (by kernel_rfl) rfl (fun i9 hi9 => ?_)
      have hi9' : i9 = 1 ∨ i9 = 11 := by simpa using hi9
      clear hi9
      rcases hi9' with rfl | rfl
      · refine _root_.id (op_call (k := 1) (d := 40) (R := fun v w' => ∃ a1 k1 a2 k2 a3 k3, v = .agg #[.int .i64 p.fr, .slice a1 p.tn k1, .int .i64 p.sd, .int .i64 p.ck, .slice a2 p.an k2, .slice a3 p.sn k3, .int .i64 p.bu] ∧ OwnPlan w' wo.heap.size (p.moved a1 k1 a2 k2 a3 k3) T A S ∧ Below wo.heap.size wo w') hI rfl rfl (by kernel_rfl) (Nat.lt_of_le_of_lt (by decide) hsz) (wanted_free rfl) ((twin_any p T A S (by have := HN.out; omega) (by have := HN.out; omega) (by have := HN.out; omega) _ (HP2.out.below hq)).mono fun e w' g => by obtain ⟨a1, k1, a2, k2, a3, k3, h1, h2, h3⟩ := g; exact ⟨_, h1, a1, k1, a2, k2, a3, k3, rfl, h2, h3⟩) (by have e39 := n39; have f39 := n39.eval; unfold At at e39; simp [go_sem, e39]) ?_)
        intro v w' a' hR' hI' n40' hk
        obtain ⟨a1, k1, a2, k2, a3, k3, rfl, h1, hb⟩ := hR'
        have hT1 := hT.setC hb hq.size h1
        refine ⟨(And.intro (heap_lft hS.1 hb) (heap_lft hS.2 hb)), ?_⟩
        replace n39 := hk _ _ n39 rfl
        replace n42 := hk _ _ n42 rfl
        replace n41 := hk _ _ n41 rfl
        replace n44 := hk _ _ n44 rfl
        replace n47 := hk _ _ n47 rfl
        replace n46 := hk _ _ n46 rfl
        replace n11 := hk _ _ n11 rfl
        have n40 := n40'
        replace hI := hI'
        clear hk hI' n40'
        obtain ⟨act9, rfl⟩ : ∃ x, x = a' := ⟨_, rfl⟩
        have hS1 := (And.intro (heap_lft hS.1 hb) (heap_lft hS.2 hb))
        have hq1 := below_thn hq hb
        refine Rest.same (d' := [0, 3, 5, 8, 2, 7, 10, 1]) ?_ (by kernel_rfl)
        rw [← hR]
        exact st1x2x7x10 a1 k1 a2 k2 a3 k3 bn en xg _ _ hI n40 n42 n41 n44 n47 n46 n11 hT1 hS1 hq1
      · have hn1 := below_new wo (wheelsB none 0 0)
        have hT1 := hT.newH hq.size
        have hS1 : (wo.alloc (wheelsB none 0 0)).heap[w.heap.size]? = some (planB p) ∧ (wo.alloc (wheelsB none 0 0)).heap[w.heap.size + 1]? = some (wheelsB a n c) := (And.intro (heap_lft hS.1 hn1) (heap_lft hS.2 hn1))
        have hq1 := below_thn hq hn1
        obtain ⟨nw, hwe⟩ : ∃ y, wo.alloc (wheelsB none 0 0) = y := ⟨_, rfl⟩
        rw [hwe] at hn1 hT1 hS1 hq1
        refine _root_.id (op_value (k := 11) (d := 13) (v := .pointer (some ⟨wo.heap.size, 0, none⟩)) hI rfl rfl (by kernel_rfl) (Nat.lt_of_le_of_lt (by decide) hsz) (wanted_free rfl) (by simp [go_sem]; try rfl) (fun a' hI' n13' hk => ⟨by rw [show _ = nw from hwe]; exact hS1, ?_⟩))
        replace n39 := hk _ _ n39 rfl
        replace n42 := hk _ _ n42 rfl
        replace n41 := hk _ _ n41 rfl
        replace n44 := hk _ _ n44 rfl
        replace n47 := hk _ _ n47 rfl
        replace n46 := hk _ _ n46 rfl
        replace n11 := hk _ _ n11 rfl
        have n13 := n13'
        replace hI := hI'
        clear hk hI' n13'
        obtain ⟨act9, rfl⟩ : ∃ x, x = a' := ⟨_, rfl⟩
        rw [show World.alloc wo _ = nw from hwe]
        refine Rest.same (d' := [0, 3, 5, 8, 2, 7, 10, 11]) ?_ (by kernel_rfl)
        rw [← hR]
        exact st0x2x7x10x11 bn en xg wo.heap.size _ _ hI n39 n42 n41 n44 n47 n46 n11 n13 hT1 hS1 hq1
    have st0x2x7x11 : ∀ (bn : Nat) (en : Nat) (xh : Nat) (ac : Act) (wo : World), Kept (11 :: 12 :: 13 :: 14 :: List.range' 39 10) a0 ac → At ac 39 (.agg #[.int .i64 p.fr, .slice p.ta p.tn p.tc, .int .i64 p.sd, .int .i64 p.ck, .slice p.aa p.an p.ac, .slice p.sa p.sn p.sc, .int .i64 p.bu]) → At ac 42 (.slice wa m wk) → At ac 41 (.slice (some ⟨bn, 0, none⟩) 0 0) → At ac 44 (.agg #[.slice a n c]) → At ac 47 (.slice la ln lc) → At ac 46 (.slice (some ⟨en, 0, none⟩) 0 0) → At ac 13 (.pointer (some ⟨xh, 0, none⟩)) → LSt W2.heap.size wo ⟨p, T, A, S, m, X, n, F, ln, L⟩ none (some (some ⟨bn, 0, none⟩, 0, 0)) none (some (some ⟨en, 0, none⟩, 0, 0)) none (some xh) → (wo.heap[w.heap.size]? = some (planB p) ∧ wo.heap[w.heap.size + 1]? = some (wheelsB a n c)) → Below W2.heap.size W2 wo → R 9 [0, 3, 5, 8, 2, 7, 11] ac wo := by
      clear st4x2x7x10x11 st3x2x7x10x11 st4x2x7x10 st4x2x7x11 st2x2x7x10x11 st3x2x7x10 st3x2x7x11 st3x2x10x11 st4x2x7 st1x2x7x10x11 st2x2x7x10 st2x2x7x11 st2x2x10x11 st3x2x7 st3x2x10 st3x2x11 st1x2x7x10 st1x2x10x11 st1x7x10x11 st2x2x7 st2x2x10 st2x2x11 st3x2 st0x2x7x10
      intro bn en xh ac wo hI n39 n42 n41 n44 n47 n46 n13 hT hS hq
      rw [hR]
      refine rest_split [1, 10] (by kernel_rfl) rfl (fun i9 hi9 => ?_)
      have hi9' : i9 = 1 ∨ i9 = 10 := by simpa using hi9
      clear hi9
      rcases hi9' with rfl | rfl
      · refine _root_.id (op_call (k := 1) (d := 40) (R := fun v w' => ∃ a1 k1 a2 k2 a3 k3, v = .agg #[.int .i64 p.fr, .slice a1 p.tn k1, .int .i64 p.sd, .int .i64 p.ck, .slice a2 p.an k2, .slice a3 p.sn k3, .int .i64 p.bu] ∧ OwnPlan w' wo.heap.size (p.moved a1 k1 a2 k2 a3 k3) T A S ∧ Below wo.heap.size wo w') hI rfl rfl (by kernel_rfl) (Nat.lt_of_le_of_lt (by decide) hsz) (wanted_free rfl) ((twin_any p T A S (by have := HN.out; omega) (by have := HN.out; omega) (by have := HN.out; omega) _ (HP2.out.below hq)).mono fun e w' g => by obtain ⟨a1, k1, a2, k2, a3, k3, h1, h2, h3⟩ := g; exact ⟨_, h1, a1, k1, a2, k2, a3, k3, rfl, h2, h3⟩) (by have e39 := n39; have f39 := n39.eval; unfold At at e39; simp [go_sem, e39]) ?_)
        intro v w' a' hR' hI' n40' hk
        obtain ⟨a1, k1, a2, k2, a3, k3, rfl, h1, hb⟩ := hR'
        have hT1 := hT.setC hb hq.size h1
        refine ⟨(And.intro (heap_lft hS.1 hb) (heap_lft hS.2 hb)), ?_⟩
        replace n39 := hk _ _ n39 rfl
        replace n42 := hk _ _ n42 rfl
        replace n41 := hk _ _ n41 rfl
        replace n44 := hk _ _ n44 rfl
        replace n47 := hk _ _ n47 rfl
        replace n46 := hk _ _ n46 rfl
        replace n13 := hk _ _ n13 rfl
        have n40 := n40'
        replace hI := hI'
        clear hk hI' n40'
        obtain ⟨act9, rfl⟩ : ∃ x, x = a' := ⟨_, rfl⟩
        have hS1 := (And.intro (heap_lft hS.1 hb) (heap_lft hS.2 hb))
        have hq1 := below_thn hq hb
        refine Rest.same (d' := [0, 3, 5, 8, 2, 7, 11, 1]) ?_ (by kernel_rfl)
        rw [← hR]
        exact st1x2x7x11 a1 k1 a2 k2 a3 k3 bn en xh _ _ hI n40 n42 n41 n44 n47 n46 n13 hT1 hS1 hq1
      · have hn1 := below_new wo (planB noPlan)
        have hT1 := hT.newG hq.size
        have hS1 : (wo.alloc (planB noPlan)).heap[w.heap.size]? = some (planB p) ∧ (wo.alloc (planB noPlan)).heap[w.heap.size + 1]? = some (wheelsB a n c) := (And.intro (heap_lft hS.1 hn1) (heap_lft hS.2 hn1))
        have hq1 := below_thn hq hn1
        obtain ⟨nw, hwe⟩ : ∃ y, wo.alloc (planB noPlan) = y := ⟨_, rfl⟩
        rw [hwe] at hn1 hT1 hS1 hq1
        refine _root_.id (op_value (k := 10) (d := 11) (v := .pointer (some ⟨wo.heap.size, 0, none⟩)) hI rfl rfl (by kernel_rfl) (Nat.lt_of_le_of_lt (by decide) hsz) (wanted_free rfl) (by simp [go_sem]; try rfl) (fun a' hI' n11' hk => ⟨by rw [show _ = nw from hwe]; exact hS1, ?_⟩))
        replace n39 := hk _ _ n39 rfl
        replace n42 := hk _ _ n42 rfl
        replace n41 := hk _ _ n41 rfl
        replace n44 := hk _ _ n44 rfl
        replace n47 := hk _ _ n47 rfl
        replace n46 := hk _ _ n46 rfl
        replace n13 := hk _ _ n13 rfl
        have n11 := n11'
        replace hI := hI'
        clear hk hI' n11'
        obtain ⟨act9, rfl⟩ : ∃ x, x = a' := ⟨_, rfl⟩
        rw [show World.alloc wo _ = nw from hwe]
        refine Rest.same (d' := [0, 3, 5, 8, 2, 7, 10, 11]) ?_ (by kernel_rfl)
        rw [← hR]
        exact st0x2x7x10x11 bn en wo.heap.size xh _ _ hI n39 n42 n41 n44 n47 n46 n11 n13 hT1 hS1 hq1
    have st0x2x10x11 : ∀ (bn : Nat) (xg : Nat) (xh : Nat) (ac : Act) (wo : World), Kept (11 :: 12 :: 13 :: 14 :: List.range' 39 10) a0 ac → At ac 39 (.agg #[.int .i64 p.fr, .slice p.ta p.tn p.tc, .int .i64 p.sd, .int .i64 p.ck, .slice p.aa p.an p.ac, .slice p.sa p.sn p.sc, .int .i64 p.bu]) → At ac 42 (.slice wa m wk) → At ac 41 (.slice (some ⟨bn, 0, none⟩) 0 0) → At ac 44 (.agg #[.slice a n c]) → At ac 47 (.slice la ln lc) → At ac 11 (.pointer (some ⟨xg, 0, none⟩)) → At ac 13 (.pointer (some ⟨xh, 0, none⟩)) → LSt W2.heap.size wo ⟨p, T, A, S, m, X, n, F, ln, L⟩ none (some (some ⟨bn, 0, none⟩, 0, 0)) none none (some xg) (some xh) → (wo.heap[w.heap.size]? = some (planB p) ∧ wo.heap[w.heap.size + 1]? = some (wheelsB a n c)) → Below W2.heap.size W2 wo → R 9 [0, 3, 5, 8, 2, 10, 11] ac wo := by
      clear st4x2x7x10x11 st3x2x7x10x11 st4x2x7x10 st4x2x7x11 st2x2x7x10x11 st3x2x7x10 st3x2x7x11 st3x2x10x11 st4x2x7 st1x2x7x10x11 st2x2x7x10 st2x2x7x11 st2x2x10x11 st3x2x7 st3x2x10 st3x2x11 st1x2x7x10 st1x2x7x11 st1x7x10x11 st2x2x7 st2x2x10 st2x2x11 st3x2 st0x2x7x10 st0x2x7x11
      intro bn xg xh ac wo hI n39 n42 n41 n44 n47 n11 n13 hT hS hq
      rw [hR]
      refine rest_split [1, 7] (by kernel_rfl) rfl (fun i9 hi9 => ?_)
      have hi9' : i9 = 1 ∨ i9 = 7 := by simpa using hi9
      clear hi9
      rcases hi9' with rfl | rfl
      · refine _root_.id (op_call (k := 1) (d := 40) (R := fun v w' => ∃ a1 k1 a2 k2 a3 k3, v = .agg #[.int .i64 p.fr, .slice a1 p.tn k1, .int .i64 p.sd, .int .i64 p.ck, .slice a2 p.an k2, .slice a3 p.sn k3, .int .i64 p.bu] ∧ OwnPlan w' wo.heap.size (p.moved a1 k1 a2 k2 a3 k3) T A S ∧ Below wo.heap.size wo w') hI rfl rfl (by kernel_rfl) (Nat.lt_of_le_of_lt (by decide) hsz) (wanted_free rfl) ((twin_any p T A S (by have := HN.out; omega) (by have := HN.out; omega) (by have := HN.out; omega) _ (HP2.out.below hq)).mono fun e w' g => by obtain ⟨a1, k1, a2, k2, a3, k3, h1, h2, h3⟩ := g; exact ⟨_, h1, a1, k1, a2, k2, a3, k3, rfl, h2, h3⟩) (by have e39 := n39; have f39 := n39.eval; unfold At at e39; simp [go_sem, e39]) ?_)
        intro v w' a' hR' hI' n40' hk
        obtain ⟨a1, k1, a2, k2, a3, k3, rfl, h1, hb⟩ := hR'
        have hT1 := hT.setC hb hq.size h1
        refine ⟨(And.intro (heap_lft hS.1 hb) (heap_lft hS.2 hb)), ?_⟩
        replace n39 := hk _ _ n39 rfl
        replace n42 := hk _ _ n42 rfl
        replace n41 := hk _ _ n41 rfl
        replace n44 := hk _ _ n44 rfl
        replace n47 := hk _ _ n47 rfl
        replace n11 := hk _ _ n11 rfl
        replace n13 := hk _ _ n13 rfl
        have n40 := n40'
        replace hI := hI'
        clear hk hI' n40'
        obtain ⟨act9, rfl⟩ : ∃ x, x = a' := ⟨_, rfl⟩
        have hS1 := (And.intro (heap_lft hS.1 hb) (heap_lft hS.2 hb))
        have hq1 := below_thn hq hb
        refine Rest.same (d' := [0, 3, 5, 8, 2, 10, 11, 1]) ?_ (by kernel_rfl)
        rw [← hR]
        exact st1x2x10x11 a1 k1 a2 k2 a3 k3 bn xg xh _ _ hI n40 n42 n41 n44 n47 n11 n13 hT1 hS1 hq1
      · have hn1 := below_new wo (.cells #[] 63)
        have hT1 := hT.newE hq.size
        have hS1 : (wo.alloc (.cells #[] 63)).heap[w.heap.size]? = some (planB p) ∧ (wo.alloc (.cells #[] 63)).heap[w.heap.size + 1]? = some (wheelsB a n c) := (And.intro (heap_lft hS.1 hn1) (heap_lft hS.2 hn1))
        have hq1 := below_thn hq hn1
        obtain ⟨nw, hwe⟩ : ∃ y, wo.alloc (.cells #[] 63) = y := ⟨_, rfl⟩
        rw [hwe] at hn1 hT1 hS1 hq1
        refine _root_.id (op_value (k := 7) (d := 46) (v := .slice (some ⟨wo.heap.size, 0, none⟩) 0 0) hI rfl rfl (by kernel_rfl) (Nat.lt_of_le_of_lt (by decide) hsz) (wanted_free rfl) (by simp [go_sem]; try rfl) (fun a' hI' n46' hk => ⟨by rw [hwe]; exact hS1, ?_⟩))
        replace n39 := hk _ _ n39 rfl
        replace n42 := hk _ _ n42 rfl
        replace n41 := hk _ _ n41 rfl
        replace n44 := hk _ _ n44 rfl
        replace n47 := hk _ _ n47 rfl
        replace n11 := hk _ _ n11 rfl
        replace n13 := hk _ _ n13 rfl
        have n46 := n46'
        replace hI := hI'
        clear hk hI' n46'
        obtain ⟨act9, rfl⟩ : ∃ x, x = a' := ⟨_, rfl⟩
        rw [hwe]
        refine Rest.same (d' := [0, 3, 5, 8, 2, 7, 10, 11]) ?_ (by kernel_rfl)
        rw [← hR]
        exact st0x2x7x10x11 bn wo.heap.size xg xh _ _ hI n39 n42 n41 n44 n47 n46 n11 n13 hT1 hS1 hq1
    have st0x7x10x11 : ∀ (en : Nat) (xg : Nat) (xh : Nat) (ac : Act) (wo : World), Kept (11 :: 12 :: 13 :: 14 :: List.range' 39 10) a0 ac → At ac 39 (.agg #[.int .i64 p.fr, .slice p.ta p.tn p.tc, .int .i64 p.sd, .int .i64 p.ck, .slice p.aa p.an p.ac, .slice p.sa p.sn p.sc, .int .i64 p.bu]) → At ac 42 (.slice wa m wk) → At ac 44 (.agg #[.slice a n c]) → At ac 47 (.slice la ln lc) → At ac 46 (.slice (some ⟨en, 0, none⟩) 0 0) → At ac 11 (.pointer (some ⟨xg, 0, none⟩)) → At ac 13 (.pointer (some ⟨xh, 0, none⟩)) → LSt W2.heap.size wo ⟨p, T, A, S, m, X, n, F, ln, L⟩ none none none (some (some ⟨en, 0, none⟩, 0, 0)) (some xg) (some xh) → (wo.heap[w.heap.size]? = some (planB p) ∧ wo.heap[w.heap.size + 1]? = some (wheelsB a n c)) → Below W2.heap.size W2 wo → R 9 [0, 3, 5, 8, 7, 10, 11] ac wo := by
      clear st4x2x7x10x11 st3x2x7x10x11 st4x2x7x10 st4x2x7x11 st2x2x7x10x11 st3x2x7x10 st3x2x7x11 st3x2x10x11 st4x2x7 st1x2x7x10x11 st2x2x7x10 st2x2x7x11 st2x2x10x11 st3x2x7 st3x2x10 st3x2x11 st1x2x7x10 st1x2x7x11 st1x2x10x11 st2x2x7 st2x2x10 st2x2x11 st3x2 st0x2x7x10 st0x2x7x11 st0x2x10x11
      intro en xg xh ac wo hI n39 n42 n44 n47 n46 n11 n13 hT hS hq
      rw [hR]
      refine rest_split [1, 2] (by kernel_rfl) rfl (fun i9 hi9 => ?_)
      have hi9' : i9 = 1 ∨ i9 = 2 := by simpa using hi9
      clear hi9
      rcases hi9' with rfl | rfl
      · refine _root_.id (op_call (k := 1) (d := 40) (R := fun v w' => ∃ a1 k1 a2 k2 a3 k3, v = .agg #[.int .i64 p.fr, .slice a1 p.tn k1, .int .i64 p.sd, .int .i64 p.ck, .slice a2 p.an k2, .slice a3 p.sn k3, .int .i64 p.bu] ∧ OwnPlan w' wo.heap.size (p.moved a1 k1 a2 k2 a3 k3) T A S ∧ Below wo.heap.size wo w') hI rfl rfl (by kernel_rfl) (Nat.lt_of_le_of_lt (by decide) hsz) (wanted_free rfl) ((twin_any p T A S (by have := HN.out; omega) (by have := HN.out; omega) (by have := HN.out; omega) _ (HP2.out.below hq)).mono fun e w' g => by obtain ⟨a1, k1, a2, k2, a3, k3, h1, h2, h3⟩ := g; exact ⟨_, h1, a1, k1, a2, k2, a3, k3, rfl, h2, h3⟩) (by have e39 := n39; have f39 := n39.eval; unfold At at e39; simp [go_sem, e39]) ?_)
        intro v w' a' hR' hI' n40' hk
        obtain ⟨a1, k1, a2, k2, a3, k3, rfl, h1, hb⟩ := hR'
        have hT1 := hT.setC hb hq.size h1
        refine ⟨(And.intro (heap_lft hS.1 hb) (heap_lft hS.2 hb)), ?_⟩
        replace n39 := hk _ _ n39 rfl
        replace n42 := hk _ _ n42 rfl
        replace n44 := hk _ _ n44 rfl
        replace n47 := hk _ _ n47 rfl
        replace n46 := hk _ _ n46 rfl
        replace n11 := hk _ _ n11 rfl
        replace n13 := hk _ _ n13 rfl
        have n40 := n40'
        replace hI := hI'
        clear hk hI' n40'
        obtain ⟨act9, rfl⟩ : ∃ x, x = a' := ⟨_, rfl⟩
        have hS1 := (And.intro (heap_lft hS.1 hb) (heap_lft hS.2 hb))
        have hq1 := below_thn hq hb
        refine Rest.same (d' := [0, 3, 5, 8, 7, 10, 11, 1]) ?_ (by kernel_rfl)
        rw [← hR]
        exact st1x7x10x11 a1 k1 a2 k2 a3 k3 en xg xh _ _ hI n40 n42 n44 n47 n46 n11 n13 hT1 hS1 hq1
      · have hn1 := below_new wo (.cells #[] 3)
        have hT1 := hT.newB hq.size
        have hS1 : (wo.alloc (.cells #[] 3)).heap[w.heap.size]? = some (planB p) ∧ (wo.alloc (.cells #[] 3)).heap[w.heap.size + 1]? = some (wheelsB a n c) := (And.intro (heap_lft hS.1 hn1) (heap_lft hS.2 hn1))
        have hq1 := below_thn hq hn1
        obtain ⟨nw, hwe⟩ : ∃ y, wo.alloc (.cells #[] 3) = y := ⟨_, rfl⟩
        rw [hwe] at hn1 hT1 hS1 hq1
        refine _root_.id (op_value (k := 2) (d := 41) (v := .slice (some ⟨wo.heap.size, 0, none⟩) 0 0) hI rfl rfl (by kernel_rfl) (Nat.lt_of_le_of_lt (by decide) hsz) (wanted_free rfl) (by simp [go_sem]; try rfl) (fun a' hI' n41' hk => ⟨by rw [hwe]; exact hS1, ?_⟩))
        replace n39 := hk _ _ n39 rfl
        replace n42 := hk _ _ n42 rfl
        replace n44 := hk _ _ n44 rfl
        replace n47 := hk _ _ n47 rfl
        replace n46 := hk _ _ n46 rfl
        replace n11 := hk _ _ n11 rfl
        replace n13 := hk _ _ n13 rfl
        have n41 := n41'
        replace hI := hI'
        clear hk hI' n41'
        obtain ⟨act9, rfl⟩ : ∃ x, x = a' := ⟨_, rfl⟩
        rw [hwe]
        refine Rest.same (d' := [0, 3, 5, 8, 2, 7, 10, 11]) ?_ (by kernel_rfl)
        rw [← hR]
        exact st0x2x7x10x11 wo.heap.size en xg xh _ _ hI n39 n42 n41 n44 n47 n46 n11 n13 hT1 hS1 hq1
    have st1x2x7 : ∀ (a1 : Option Addr) (k1 : Nat) (a2 : Option Addr) (k2 : Nat) (a3 : Option Addr) (k3 : Nat) (bn : Nat) (en : Nat) (ac : Act) (wo : World), Kept (11 :: 12 :: 13 :: 14 :: List.range' 39 10) a0 ac → At ac 40 (.agg #[.int .i64 p.fr, .slice a1 p.tn k1, .int .i64 p.sd, .int .i64 p.ck, .slice a2 p.an k2, .slice a3 p.sn k3, .int .i64 p.bu]) → At ac 42 (.slice wa m wk) → At ac 41 (.slice (some ⟨bn, 0, none⟩) 0 0) → At ac 44 (.agg #[.slice a n c]) → At ac 47 (.slice la ln lc) → At ac 46 (.slice (some ⟨en, 0, none⟩) 0 0) → LSt W2.heap.size wo ⟨p, T, A, S, m, X, n, F, ln, L⟩ (some (a1, k1, a2, k2, a3, k3)) (some (some ⟨bn, 0, none⟩, 0, 0)) none (some (some ⟨en, 0, none⟩, 0, 0)) none none → (wo.heap[w.heap.size]? = some (planB p) ∧ wo.heap[w.heap.size + 1]? = some (wheelsB a n c)) → Below W2.heap.size W2 wo → R 9 [0, 3, 5, 8, 2, 7, 1] ac wo := by
      clear st4x2x7x10x11 st3x2x7x10x11 st4x2x7x10 st4x2x7x11 st2x2x7x10x11 st3x2x7x10 st3x2x7x11 st3x2x10x11 st4x2x7 st1x2x7x10x11 st2x2x7x10 st2x2x7x11 st2x2x10x11 st3x2x7 st3x2x10 st3x2x11 st0x2x7x10x11 st1x2x10x11 st1x7x10x11 st2x2x10 st2x2x11 st3x2 st0x2x7x10 st0x2x7x11 st0x2x10x11 st0x7x10x11
      intro a1 k1 a2 k2 a3 k3 bn en ac wo hI n40 n42 n41 n44 n47 n46 hT hS hq
      rw [hR]
      refine rest_split [4, 10, 11] (by kernel_rfl) rfl (fun i9 hi9 => ?_)
      have hi9' : i9 = 4 ∨ i9 = 10 ∨ i9 = 11 := by simpa using hi9
      clear hi9
      rcases hi9' with rfl | rfl | rfl
      · obtain ⟨bb, bk, nw, hr, hT1, hb1⟩ := hT.appB (HXX2.out.below hq) HG0.out.2.1 HM.out hq.size 22
        have hq1 := hq.trans hb1
        have hS1 : nw.heap[w.heap.size]? = some (planB p) ∧ nw.heap[w.heap.size + 1]? = some (wheelsB a n c) := ⟨heap_lft HX2.out hq1, heap_lft HY2.out hq1⟩
        refine _root_.id (op_value (k := 4) (d := 43) (v := .slice bb m bk) hI rfl rfl (by kernel_rfl) (Nat.lt_of_le_of_lt (by decide) hsz) (wanted_free rfl) (exec_append (.tmp 41) (.tmp 42) 22 22 rfl n41.eval n42.eval (hr)) (fun a' hI' n43' hk => ⟨hS1, ?_⟩))
        replace n40 := hk _ _ n40 rfl
        replace n42 := hk _ _ n42 rfl
        replace n41 := hk _ _ n41 rfl
        replace n44 := hk _ _ n44 rfl
        replace n47 := hk _ _ n47 rfl
        replace n46 := hk _ _ n46 rfl
        have n43 := n43'
        replace hI := hI'
        clear hk hI' n43'
        obtain ⟨act9, rfl⟩ : ∃ x, x = a' := ⟨_, rfl⟩
        refine Rest.same (d' := [0, 3, 5, 8, 2, 7, 1, 4]) ?_ (by kernel_rfl)
        rw [← hR]
        exact st2x2x7 a1 k1 a2 k2 a3 k3 bb bk en _ _ hI n40 n43 n44 n47 n46 hT1 hS1 hq1
      · have hn1 := below_new wo (planB noPlan)
        have hT1 := hT.newG hq.size
        have hS1 : (wo.alloc (planB noPlan)).heap[w.heap.size]? = some (planB p) ∧ (wo.alloc (planB noPlan)).heap[w.heap.size + 1]? = some (wheelsB a n c) := (And.intro (heap_lft hS.1 hn1) (heap_lft hS.2 hn1))
        have hq1 := below_thn hq hn1
        obtain ⟨nw, hwe⟩ : ∃ y, wo.alloc (planB noPlan) = y := ⟨_, rfl⟩
        rw [hwe] at hn1 hT1 hS1 hq1
        refine _root_.id (op_value (k := 10) (d := 11) (v := .pointer (some ⟨wo.heap.size, 0, none⟩)) hI rfl rfl (by kernel_rfl) (Nat.lt_of_le_of_lt (by decide) hsz) (wanted_free rfl) (by simp [go_sem]; try rfl) (fun a' hI' n11' hk => ⟨by rw [show _ = nw from hwe]; exact hS1, ?_⟩))
        replace n40 := hk _ _ n40 rfl
        replace n42 := hk _ _ n42 rfl
        replace n41 := hk _ _ n41 rfl
        replace n44 := hk _ _ n44 rfl
        replace n47 := hk _ _ n47 rfl
        replace n46 := hk _ _ n46 rfl
        have n11 := n11'
        replace hI := hI'
        clear hk hI' n11'
        obtain ⟨act9, rfl⟩ : ∃ x, x = a' := ⟨_, rfl⟩
        rw [show World.alloc wo _ = nw from hwe]
        refine Rest.same (d' := [0, 3, 5, 8, 2, 7, 10, 1]) ?_ (by kernel_rfl)
        rw [← hR]
        exact st1x2x7x10 a1 k1 a2 k2 a3 k3 bn en wo.heap.size _ _ hI n40 n42 n41 n44 n47 n46 n11 hT1 hS1 hq1
      · have hn1 := below_new wo (wheelsB none 0 0)
        have hT1 := hT.newH hq.size
        have hS1 : (wo.alloc (wheelsB none 0 0)).heap[w.heap.size]? = some (planB p) ∧ (wo.alloc (wheelsB none 0 0)).heap[w.heap.size + 1]? = some (wheelsB a n c) := (And.intro (heap_lft hS.1 hn1) (heap_lft hS.2 hn1))
        have hq1 := below_thn hq hn1
        obtain ⟨nw, hwe⟩ : ∃ y, wo.alloc (wheelsB none 0 0) = y := ⟨_, rfl⟩
        rw [hwe] at hn1 hT1 hS1 hq1
        refine _root_.id (op_value (k := 11) (d := 13) (v := .pointer (some ⟨wo.heap.size, 0, none⟩)) hI rfl rfl (by kernel_rfl) (Nat.lt_of_le_of_lt (by decide) hsz) (wanted_free rfl) (by simp [go_sem]; try rfl) (fun a' hI' n13' hk => ⟨by rw [show _ = nw from hwe]; exact hS1, ?_⟩))
        replace n40 := hk _ _ n40 rfl
        replace n42 := hk _ _ n42 rfl
        replace n41 := hk _ _ n41 rfl
        replace n44 := hk _ _ n44 rfl
        replace n47 := hk _ _ n47 rfl
        replace n46 := hk _ _ n46 rfl
        have n13 := n13'
        replace hI := hI'
        clear hk hI' n13'
        obtain ⟨act9, rfl⟩ : ∃ x, x = a' := ⟨_, rfl⟩
        rw [show World.alloc wo _ = nw from hwe]
        refine Rest.same (d' := [0, 3, 5, 8, 2, 7, 11, 1]) ?_ (by kernel_rfl)
        rw [← hR]
        exact st1x2x7x11 a1 k1 a2 k2 a3 k3 bn en wo.heap.size _ _ hI n40 n42 n41 n44 n47 n46 n13 hT1 hS1 hq1
    have st1x2x10 : ∀ (a1 : Option Addr) (k1 : Nat) (a2 : Option Addr) (k2 : Nat) (a3 : Option Addr) (k3 : Nat) (bn : Nat) (xg : Nat) (ac : Act) (wo : World), Kept (11 :: 12 :: 13 :: 14 :: List.range' 39 10) a0 ac → At ac 40 (.agg #[.int .i64 p.fr, .slice a1 p.tn k1, .int .i64 p.sd, .int .i64 p.ck, .slice a2 p.an k2, .slice a3 p.sn k3, .int .i64 p.bu]) → At ac 42 (.slice wa m wk) → At ac 41 (.slice (some ⟨bn, 0, none⟩) 0 0) → At ac 44 (.agg #[.slice a n c]) → At ac 47 (.slice la ln lc) → At ac 11 (.pointer (some ⟨xg, 0, none⟩)) → LSt W2.heap.size wo ⟨p, T, A, S, m, X, n, F, ln, L⟩ (some (a1, k1, a2, k2, a3, k3)) (some (some ⟨bn, 0, none⟩, 0, 0)) none none (some xg) none → (wo.heap[w.heap.size]? = some (planB p) ∧ wo.heap[w.heap.size + 1]? = some (wheelsB a n c)) → Below W2.heap.size W2 wo → R 9 [0, 3, 5, 8, 2, 10, 1] ac wo := by
      clear st4x2x7x10x11 st3x2x7x10x11 st4x2x7x10 st4x2x7x11 st2x2x7x10x11 st3x2x7x10 st3x2x7x11 st3x2x10x11 st4x2x7 st1x2x7x10x11 st2x2x7x10 st2x2x7x11 st2x2x10x11 st3x2x7 st3x2x10 st3x2x11 st0x2x7x10x11 st1x2x7x11 st1x7x10x11 st2x2x7 st2x2x11 st3x2 st0x2x7x10 st0x2x7x11 st0x2x10x11 st0x7x10x11 st1x2x7
      intro a1 k1 a2 k2 a3 k3 bn xg ac wo hI n40 n42 n41 n44 n47 n11 hT hS hq
      rw [hR]
      refine rest_split [4, 7, 11] (by kernel_rfl) rfl (fun i9 hi9 => ?_)
      have hi9' : i9 = 4 ∨ i9 = 7 ∨ i9 = 11 := by simpa using hi9
      clear hi9
      rcases hi9' with rfl | rfl | rfl
      · obtain ⟨bb, bk, nw, hr, hT1, hb1⟩ := hT.appB (HXX2.out.below hq) HG0.out.2.1 HM.out hq.size 22
        have hq1 := hq.trans hb1
        have hS1 : nw.heap[w.heap.size]? = some (planB p) ∧ nw.heap[w.heap.size + 1]? = some (wheelsB a n c) := ⟨heap_lft HX2.out hq1, heap_lft HY2.out hq1⟩
        refine _root_.id (op_value (k := 4) (d := 43) (v := .slice bb m bk) hI rfl rfl (by kernel_rfl) (Nat.lt_of_le_of_lt (by decide) hsz) (wanted_free rfl) (exec_append (.tmp 41) (.tmp 42) 22 22 rfl n41.eval n42.eval (hr)) (fun a' hI' n43' hk => ⟨hS1, ?_⟩))
        replace n40 := hk _ _ n40 rfl
        replace n42 := hk _ _ n42 rfl
        replace n41 := hk _ _ n41 rfl
        replace n44 := hk _ _ n44 rfl
        replace n47 := hk _ _ n47 rfl
        replace n11 := hk _ _ n11 rfl
        have n43 := n43'
        replace hI := hI'
        clear hk hI' n43'
        obtain ⟨act9, rfl⟩ : ∃ x, x = a' := ⟨_, rfl⟩
        refine Rest.same (d' := [0, 3, 5, 8, 2, 10, 1, 4]) ?_ (by kernel_rfl)
        rw [← hR]
        exact st2x2x10 a1 k1 a2 k2 a3 k3 bb bk xg _ _ hI n40 n43 n44 n47 n11 hT1 hS1 hq1
      · have hn1 := below_new wo (.cells #[] 63)
        have hT1 := hT.newE hq.size
        have hS1 : (wo.alloc (.cells #[] 63)).heap[w.heap.size]? = some (planB p) ∧ (wo.alloc (.cells #[] 63)).heap[w.heap.size + 1]? = some (wheelsB a n c) := (And.intro (heap_lft hS.1 hn1) (heap_lft hS.2 hn1))
        have hq1 := below_thn hq hn1
        obtain ⟨nw, hwe⟩ : ∃ y, wo.alloc (.cells #[] 63) = y := ⟨_, rfl⟩
        rw [hwe] at hn1 hT1 hS1 hq1
        refine _root_.id (op_value (k := 7) (d := 46) (v := .slice (some ⟨wo.heap.size, 0, none⟩) 0 0) hI rfl rfl (by kernel_rfl) (Nat.lt_of_le_of_lt (by decide) hsz) (wanted_free rfl) (by simp [go_sem]; try rfl) (fun a' hI' n46' hk => ⟨by rw [hwe]; exact hS1, ?_⟩))
        replace n40 := hk _ _ n40 rfl
        replace n42 := hk _ _ n42 rfl
        replace n41 := hk _ _ n41 rfl
        replace n44 := hk _ _ n44 rfl
        replace n47 := hk _ _ n47 rfl
        replace n11 := hk _ _ n11 rfl
        have n46 := n46'
        replace hI := hI'
        clear hk hI' n46'
        obtain ⟨act9, rfl⟩ : ∃ x, x = a' := ⟨_, rfl⟩
        rw [hwe]
        refine Rest.same (d' := [0, 3, 5, 8, 2, 7, 10, 1]) ?_ (by kernel_rfl)
        rw [← hR]
        exact st1x2x7x10 a1 k1 a2 k2 a3 k3 bn wo.heap.size xg _ _ hI n40 n42 n41 n44 n47 n46 n11 hT1 hS1 hq1
      · have hn1 := below_new wo (wheelsB none 0 0)
        have hT1 := hT.newH hq.size
        have hS1 : (wo.alloc (wheelsB none 0 0)).heap[w.heap.size]? = some (planB p) ∧ (wo.alloc (wheelsB none 0 0)).heap[w.heap.size + 1]? = some (wheelsB a n c) := (And.intro (heap_lft hS.1 hn1) (heap_lft hS.2 hn1))
        have hq1 := below_thn hq hn1
        obtain ⟨nw, hwe⟩ : ∃ y, wo.alloc (wheelsB none 0 0) = y := ⟨_, rfl⟩
        rw [hwe] at hn1 hT1 hS1 hq1
        refine _root_.id (op_value (k := 11) (d := 13) (v := .pointer (some ⟨wo.heap.size, 0, none⟩)) hI rfl rfl (by kernel_rfl) (Nat.lt_of_le_of_lt (by decide) hsz) (wanted_free rfl) (by simp [go_sem]; try rfl) (fun a' hI' n13' hk => ⟨by rw [show _ = nw from hwe]; exact hS1, ?_⟩))
        replace n40 := hk _ _ n40 rfl
        replace n42 := hk _ _ n42 rfl
        replace n41 := hk _ _ n41 rfl
        replace n44 := hk _ _ n44 rfl
        replace n47 := hk _ _ n47 rfl
        replace n11 := hk _ _ n11 rfl
        have n13 := n13'
        replace hI := hI'
        clear hk hI' n13'
        obtain ⟨act9, rfl⟩ : ∃ x, x = a' := ⟨_, rfl⟩
        rw [show World.alloc wo _ = nw from hwe]
        refine Rest.same (d' := [0, 3, 5, 8, 2, 10, 11, 1]) ?_ (by kernel_rfl)
        rw [← hR]
        exact st1x2x10x11 a1 k1 a2 k2 a3 k3 bn xg wo.heap.size _ _ hI n40 n42 n41 n44 n47 n11 n13 hT1 hS1 hq1
    have st1x7x10 : ∀ (a1 : Option Addr) (k1 : Nat) (a2 : Option Addr) (k2 : Nat) (a3 : Option Addr) (k3 : Nat) (en : Nat) (xg : Nat) (ac : Act) (wo : World), Kept (11 :: 12 :: 13 :: 14 :: List.range' 39 10) a0 ac → At ac 40 (.agg #[.int .i64 p.fr, .slice a1 p.tn k1, .int .i64 p.sd, .int .i64 p.ck, .slice a2 p.an k2, .slice a3 p.sn k3, .int .i64 p.bu]) → At ac 42 (.slice wa m wk) → At ac 44 (.agg #[.slice a n c]) → At ac 47 (.slice la ln lc) → At ac 46 (.slice (some ⟨en, 0, none⟩) 0 0) → At ac 11 (.pointer (some ⟨xg, 0, none⟩)) → LSt W2.heap.size wo ⟨p, T, A, S, m, X, n, F, ln, L⟩ (some (a1, k1, a2, k2, a3, k3)) none none (some (some ⟨en, 0, none⟩, 0, 0)) (some xg) none → (wo.heap[w.heap.size]? = some (planB p) ∧ wo.heap[w.heap.size + 1]? = some (wheelsB a n c)) → Below W2.heap.size W2 wo → R 9 [0, 3, 5, 8, 7, 10, 1] ac wo := by
      clear st4x2x7x10x11 st3x2x7x10x11 st4x2x7x10 st4x2x7x11 st2x2x7x10x11 st3x2x7x10 st3x2x7x11 st3x2x10x11 st4x2x7 st1x2x7x10x11 st2x2x7x10 st2x2x7x11 st2x2x10x11 st3x2x7 st3x2x10 st3x2x11 st0x2x7x10x11 st1x2x7x11 st1x2x10x11 st2x2x7 st2x2x10 st2x2x11 st3x2 st0x2x7x10 st0x2x7x11 st0x2x10x11 st0x7x10x11 st1x2x7 st1x2x10
      intro a1 k1 a2 k2 a3 k3 en xg ac wo hI n40 n42 n44 n47 n46 n11 hT hS hq
      rw [hR]
      refine rest_split [2, 11] (by kernel_rfl) rfl (fun i9 hi9 => ?_)
      have hi9' : i9 = 2 ∨ i9 = 11 := by simpa using hi9
      clear hi9
      rcases hi9' with rfl | rfl
      · have hn1 := below_new wo (.cells #[] 3)
        have hT1 := hT.newB hq.size
        have hS1 : (wo.alloc (.cells #[] 3)).heap[w.heap.size]? = some (planB p) ∧ (wo.alloc (.cells #[] 3)).heap[w.heap.size + 1]? = some (wheelsB a n c) := (And.intro (heap_lft hS.1 hn1) (heap_lft hS.2 hn1))
        have hq1 := below_thn hq hn1
        obtain ⟨nw, hwe⟩ : ∃ y, wo.alloc (.cells #[] 3) = y := ⟨_, rfl⟩
        rw [hwe] at hn1 hT1 hS1 hq1
        refine _root_.id (op_value (k := 2) (d := 41) (v := .slice (some ⟨wo.heap.size, 0, none⟩) 0 0) hI rfl rfl (by kernel_rfl) (Nat.lt_of_le_of_lt (by decide) hsz) (wanted_free rfl) (by simp [go_sem]; try rfl) (fun a' hI' n41' hk => ⟨by rw [hwe]; exact hS1, ?_⟩))
        replace n40 := hk _ _ n40 rfl
        replace n42 := hk _ _ n42 rfl
        replace n44 := hk _ _ n44 rfl
        replace n47 := hk _ _ n47 rfl
        replace n46 := hk _ _ n46 rfl
        replace n11 := hk _ _ n11 rfl
        have n41 := n41'
        replace hI := hI'
        clear hk hI' n41'
        obtain ⟨act9, rfl⟩ : ∃ x, x = a' := ⟨_, rfl⟩
        rw [hwe]
        refine Rest.same (d' := [0, 3, 5, 8, 2, 7, 10, 1]) ?_ (by kernel_rfl)
        rw [← hR]
        exact st1x2x7x10 a1 k1 a2 k2 a3 k3 wo.heap.size en xg _ _ hI n40 n42 n41 n44 n47 n46 n11 hT1 hS1 hq1
      · have hn1 := below_new wo (wheelsB none 0 0)
        have hT1 := hT.newH hq.size
        have hS1 : (wo.alloc (wheelsB none 0 0)).heap[w.heap.size]? = some (planB p) ∧ (wo.alloc (wheelsB none 0 0)).heap[w.heap.size + 1]? = some (wheelsB a n c) := (And.intro (heap_lft hS.1 hn1) (heap_lft hS.2 hn1))
        have hq1 := below_thn hq hn1
        obtain ⟨nw, hwe⟩ : ∃ y, wo.alloc (wheelsB none 0 0) = y := ⟨_, rfl⟩
        rw [hwe] at hn1 hT1 hS1 hq1
        refine _root_.id (op_value (k := 11) (d := 13) (v := .pointer (some ⟨wo.heap.size, 0, none⟩)) hI rfl rfl (by kernel_rfl) (Nat.lt_of_le_of_lt (by decide) hsz) (wanted_free rfl) (by simp [go_sem]; try rfl) (fun a' hI' n13' hk => ⟨by rw [show _ = nw from hwe]; exact hS1, ?_⟩))
        replace n40 := hk _ _ n40 rfl
        replace n42 := hk _ _ n42 rfl
        replace n44 := hk _ _ n44 rfl
        replace n47 := hk _ _ n47 rfl
        replace n46 := hk _ _ n46 rfl
        replace n11 := hk _ _ n11 rfl
        have n13 := n13'
        replace hI := hI'
        clear hk hI' n13'
        obtain ⟨act9, rfl⟩ : ∃ x, x = a' := ⟨_, rfl⟩
        rw [show World.alloc wo _ = nw from hwe]
        refine Rest.same (d' := [0, 3, 5, 8, 7, 10, 11, 1]) ?_ (by kernel_rfl)
        rw [← hR]
        exact st1x7x10x11 a1 k1 a2 k2 a3 k3 en xg wo.heap.size _ _ hI n40 n42 n44 n47 n46 n11 n13 hT1 hS1 hq1
    have st1x2x11 : ∀ (a1 : Option Addr) (k1 : Nat) (a2 : Option Addr) (k2 : Nat) (a3 : Option Addr) (k3 : Nat) (bn : Nat) (xh : Nat) (ac : Act) (wo : World), Kept (11 :: 12 :: 13 :: 14 :: List.range' 39 10) a0 ac → At ac 40 (.agg #[.int .i64 p.fr, .slice a1 p.tn k1, .int .i64 p.sd, .int .i64 p.ck, .slice a2 p.an k2, .slice a3 p.sn k3, .int .i64 p.bu]) → At ac 42 (.slice wa m wk) → At ac 41 (.slice (some ⟨bn, 0, none⟩) 0 0) → At ac 44 (.agg #[.slice a n c]) → At ac 47 (.slice la ln lc) → At ac 13 (.pointer (some ⟨xh, 0, none⟩)) → LSt W2.heap.size wo ⟨p, T, A, S, m, X, n, F, ln, L⟩ (some (a1, k1, a2, k2, a3, k3)) (some (some ⟨bn, 0, none⟩, 0, 0)) none none none (some xh) → (wo.heap[w.heap.size]? = some (planB p) ∧ wo.heap[w.heap.size + 1]? = some (wheelsB a n c)) → Below W2.heap.size W2 wo → R 9 [0, 3, 5, 8, 2, 11, 1] ac wo := by
      clear st4x2x7x10x11 st3x2x7x10x11 st4x2x7x10 st4x2x7x11 st2x2x7x10x11 st3x2x7x10 st3x2x7x11 st3x2x10x11 st4x2x7 st1x2x7x10x11 st2x2x7x10 st2x2x7x11 st2x2x10x11 st3x2x7 st3x2x10 st3x2x11 st0x2x7x10x11 st1x2x7x10 st1x7x10x11 st2x2x7 st2x2x10 st3x2 st0x2x7x10 st0x2x7x11 st0x2x10x11 st0x7x10x11 st1x2x7 st1x2x10 st1x7x10
      intro a1 k1 a2 k2 a3 k3 bn xh ac wo hI n40 n42 n41 n44 n47 n13 hT hS hq
      rw [hR]
      refine rest_split [4, 7, 10] (by kernel_rfl) rfl (fun i9 hi9 => ?_)
      have hi9' : i9 = 4 ∨ i9 = 7 ∨ i9 = 10 := by simpa using hi9
      clear hi9
      rcases hi9' with rfl | rfl | rfl
      · obtain ⟨bb, bk, nw, hr, hT1, hb1⟩ := hT.appB (HXX2.out.below hq) HG0.out.2.1 HM.out hq.size 22
        have hq1 := hq.trans hb1
        have hS1 : nw.heap[w.heap.size]? = some (planB p) ∧ nw.heap[w.heap.size + 1]? = some (wheelsB a n c) := ⟨heap_lft HX2.out hq1, heap_lft HY2.out hq1⟩
        refine _root_.id (op_value (k := 4) (d := 43) (v := .slice bb m bk) hI rfl rfl (by kernel_rfl) (Nat.lt_of_le_of_lt (by decide) hsz) (wanted_free rfl) (exec_append (.tmp 41) (.tmp 42) 22 22 rfl n41.eval n42.eval (hr)) (fun a' hI' n43' hk => ⟨hS1, ?_⟩))
        replace n40 := hk _ _ n40 rfl
        replace n42 := hk _ _ n42 rfl
        replace n41 := hk _ _ n41 rfl
        replace n44 := hk _ _ n44 rfl
        replace n47 := hk _ _ n47 rfl
        replace n13 := hk _ _ n13 rfl
        have n43 := n43'
        replace hI := hI'
        clear hk hI' n43'
        obtain ⟨act9, rfl⟩ : ∃ x, x = a' := ⟨_, rfl⟩
        refine Rest.same (d' := [0, 3, 5, 8, 2, 11, 1, 4]) ?_ (by kernel_rfl)
        rw [← hR]
        exact st2x2x11 a1 k1 a2 k2 a3 k3 bb bk xh _ _ hI n40 n43 n44 n47 n13 hT1 hS1 hq1
      · have hn1 := below_new wo (.cells #[] 63)
        have hT1 := hT.newE hq.size
        have hS1 : (wo.alloc (.cells #[] 63)).heap[w.heap.size]? = some (planB p) ∧ (wo.alloc (.cells #[] 63)).heap[w.heap.size + 1]? = some (wheelsB a n c) := (And.intro (heap_lft hS.1 hn1) (heap_lft hS.2 hn1))
        have hq1 := below_thn hq hn1
        obtain ⟨nw, hwe⟩ : ∃ y, wo.alloc (.cells #[] 63) = y := ⟨_, rfl⟩
        rw [hwe] at hn1 hT1 hS1 hq1
        refine _root_.id (op_value (k := 7) (d := 46) (v := .slice (some ⟨wo.heap.size, 0, none⟩) 0 0) hI rfl rfl (by kernel_rfl) (Nat.lt_of_le_of_lt (by decide) hsz) (wanted_free rfl) (by simp [go_sem]; try rfl) (fun a' hI' n46' hk => ⟨by rw [hwe]; exact hS1, ?_⟩))
        replace n40 := hk _ _ n40 rfl
        replace n42 := hk _ _ n42 rfl
        replace n41 := hk _ _ n41 rfl
        replace n44 := hk _ _ n44 rfl
        replace n47 := hk _ _ n47 rfl
        replace n13 := hk _ _ n13 rfl
        have n46 := n46'
        replace hI := hI'
        clear hk hI' n46'
        obtain ⟨act9, rfl⟩ : ∃ x, x = a' := ⟨_, rfl⟩
        rw [hwe]
        refine Rest.same (d' := [0, 3, 5, 8, 2, 7, 11, 1]) ?_ (by kernel_rfl)
        rw [← hR]
        exact st1x2x7x11 a1 k1 a2 k2 a3 k3 bn wo.heap.size xh _ _ hI n40 n42 n41 n44 n47 n46 n13 hT1 hS1 hq1
      · have hn1 := below_new wo (planB noPlan)
        have hT1 := hT.newG hq.size
        have hS1 : (wo.alloc (planB noPlan)).heap[w.heap.size]? = some (planB p) ∧ (wo.alloc (planB noPlan)).heap[w.heap.size + 1]? = some (wheelsB a n c) := (And.intro (heap_lft hS.1 hn1) (heap_lft hS.2 hn1))
        have hq1 := below_thn hq hn1
        obtain ⟨nw, hwe⟩ : ∃ y, wo.alloc (planB noPlan) = y := ⟨_, rfl⟩
        rw [hwe] at hn1 hT1 hS1 hq1
        refine _root_.id (op_value (k := 10) (d := 11) (v := .pointer (some ⟨wo.heap.size, 0, none⟩)) hI rfl rfl (by kernel_rfl) (Nat.lt_of_le_of_lt (by decide) hsz) (wanted_free rfl) (by simp [go_sem]; try rfl) (fun a' hI' n11' hk => ⟨by rw [show _ = nw from hwe]; exact hS1, ?_⟩))
        replace n40 := hk _ _ n40 rfl
        replace n42 := hk _ _ n42 rfl
        replace n41 := hk _ _ n41 rfl
        replace n44 := hk _ _ n44 rfl
        replace n47 := hk _ _ n47 rfl
        replace n13 := hk _ _ n13 rfl
        have n11 := n11'
        replace hI := hI'
        clear hk hI' n11'
        obtain ⟨act9, rfl⟩ : ∃ x, x = a' := ⟨_, rfl⟩
        rw [show World.alloc wo _ = nw from hwe]
        refine Rest.same (d' := [0, 3, 5, 8, 2, 10, 11, 1]) ?_ (by kernel_rfl)
        rw [← hR]
        exact st1x2x10x11 a1 k1 a2 k2 a3 k3 bn wo.heap.size xh _ _ hI n40 n42 n41 n44 n47 n11 n13 hT1 hS1 hq1
    have st1x7x11 : ∀ (a1 : Option Addr) (k1 : Nat) (a2 : Option Addr) (k2 : Nat) (a3 : Option Addr) (k3 : Nat) (en : Nat) (xh : Nat) (ac : Act) (wo : World), Kept (11 :: 12 :: 13 :: 14 :: List.range' 39 10) a0 ac → At ac 40 (.agg #[.int .i64 p.fr, .slice a1 p.tn k1, .int .i64 p.sd, .int .i64 p.ck, .slice a2 p.an k2, .slice a3 p.sn k3, .int .i64 p.bu]) → At ac 42 (.slice wa m wk) → At ac 44 (.agg #[.slice a n c]) → At ac 47 (.slice la ln lc) → At ac 46 (.slice (some ⟨en, 0, none⟩) 0 0) → At ac 13 (.pointer (some ⟨xh, 0, none⟩)) → LSt W2.heap.size wo ⟨p, T, A, S, m, X, n, F, ln, L⟩ (some (a1, k1, a2, k2, a3, k3)) none none (some (some ⟨en, 0, none⟩, 0, 0)) none (some xh) → (wo.heap[w.heap.size]? = some (planB p) ∧ wo.heap[w.heap.size + 1]? = some (wheelsB a n c)) → Below W2.heap.size W2 wo → R 9 [0, 3, 5, 8, 7, 11, 1] ac wo := by
      clear st4x2x7x10x11 st3x2x7x10x11 st4x2x7x10 st4x2x7x11 st2x2x7x10x11 st3x2x7x10 st3x2x7x11 st3x2x10x11 st4x2x7 st1x2x7x10x11 st2x2x7x10 st2x2x7x11 st2x2x10x11 st3x2x7 st3x2x10 st3x2x11 st0x2x7x10x11 st1x2x7x10 st1x2x10x11 st2x2x7 st2x2x10 st2x2x11 st3x2 st0x2x7x10 st0x2x7x11 st0x2x10x11 st0x7x10x11 st1x2x7 st1x2x10 st1x7x10 st1x2x11
      intro a1 k1 a2 k2 a3 k3 en xh ac wo hI n40 n42 n44 n47 n46 n13 hT hS hq
      rw [hR]
      refine rest_split [2, 10] (by kernel_rfl) rfl (fun i9 hi9 => ?_)
      have hi9' : i9 = 2 ∨ i9 = 10 := by simpa using hi9
      clear hi9
      rcases hi9' with rfl | rfl
      · have hn1 := below_new wo (.cells #[] 3)
        have hT1 := hT.newB hq.size
        have hS1 : (wo.alloc (.cells #[] 3)).heap[w.heap.size]? = some (planB p) ∧ (wo.alloc (.cells #[] 3)).heap[w.heap.size + 1]? = some (wheelsB a n c) := (And.intro (heap_lft hS.1 hn1) (heap_lft hS.2 hn1))
        have hq1 := below_thn hq hn1
        obtain ⟨nw, hwe⟩ : ∃ y, wo.alloc (.cells #[] 3) = y := ⟨_, rfl⟩
        rw [hwe] at hn1 hT1 hS1 hq1
        refine _root_.id (op_value (k := 2) (d := 41) (v := .slice (some ⟨wo.heap.size, 0, none⟩) 0 0) hI rfl rfl (by kernel_rfl) (Nat.lt_of_le_of_lt (by decide) hsz) (wanted_free rfl) (by simp [go_sem]; try rfl) (fun a' hI' n41' hk => ⟨by rw [hwe]; exact hS1, ?_⟩))
        replace n40 := hk _ _ n40 rfl
        replace n42 := hk _ _ n42 rfl
        replace n44 := hk _ _ n44 rfl
        replace n47 := hk _ _ n47 rfl
        replace n46 := hk _ _ n46 rfl
        replace n13 := hk _ _ n13 rfl
        have n41 := n41'
        replace hI := hI'
        clear hk hI' n41'
        obtain ⟨act9, rfl⟩ : ∃ x, x = a' := ⟨_, rfl⟩
        rw [hwe]
        refine Rest.same (d' := [0, 3, 5, 8, 2, 7, 11, 1]) ?_ (by kernel_rfl)
        rw [← hR]
        exact st1x2x7x11 a1 k1 a2 k2 a3 k3 wo.heap.size en xh _ _ hI n40 n42 n41 n44 n47 n46 n13 hT1 hS1 hq1
      · have hn1 := below_new wo (planB noPlan)
        have hT1 := hT.newG hq.size
        have hS1 : (wo.alloc (planB noPlan)).heap[w.heap.size]? = some (planB p) ∧ (wo.alloc (planB noPlan)).heap[w.heap.size + 1]? = some (wheelsB a n c) := (And.intro (heap_lft hS.1 hn1) (heap_lft hS.2 hn1))
        have hq1 := below_thn hq hn1
        obtain ⟨nw, hwe⟩ : ∃ y, wo.alloc (planB noPlan) = y := ⟨_, rfl⟩
        rw [hwe] at hn1 hT1 hS1 hq1
        refine _root_.id (op_value (k := 10) (d := 11) (v := .pointer (some ⟨wo.heap.size, 0, none⟩)) hI rfl rfl (by kernel_rfl) (Nat.lt_of_le_of_lt (by decide) hsz) (wanted_free rfl) (by simp [go_sem]; try rfl) (fun a' hI' n11' hk => ⟨by rw [show _ = nw from hwe]; exact hS1, ?_⟩))
        replace n40 := hk _ _ n40 rfl
        replace n42 := hk _ _ n42 rfl
        replace n44 := hk _ _ n44 rfl
        replace n47 := hk _ _ n47 rfl
        replace n46 := hk _ _ n46 rfl
        replace n13 := hk _ _ n13 rfl
        have n11 := n11'
        replace hI := hI'
        clear hk hI' n11'
        obtain ⟨act9, rfl⟩ : ∃ x, x = a' := ⟨_, rfl⟩
        rw [show World.alloc wo _ = nw from hwe]
        refine Rest.same (d' := [0, 3, 5, 8, 7, 10, 11, 1]) ?_ (by kernel_rfl)
        rw [← hR]
        exact st1x7x10x11 a1 k1 a2 k2 a3 k3 en wo.heap.size xh _ _ hI n40 n42 n44 n47 n46 n11 n13 hT1 hS1 hq1
    have st1x10x11 : ∀ (a1 : Option Addr) (k1 : Nat) (a2 : Option Addr) (k2 : Nat) (a3 : Option Addr) (k3 : Nat) (xg : Nat) (xh : Nat) (ac : Act) (wo : World), Kept (11 :: 12 :: 13 :: 14 :: List.range' 39 10) a0 ac → At ac 40 (.agg #[.int .i64 p.fr, .slice a1 p.tn k1, .int .i64 p.sd, .int .i64 p.ck, .slice a2 p.an k2, .slice a3 p.sn k3, .int .i64 p.bu]) → At ac 42 (.slice wa m wk) → At ac 44 (.agg #[.slice a n c]) → At ac 47 (.slice la ln lc) → At ac 11 (.pointer (some ⟨xg, 0, none⟩)) → At ac 13 (.pointer (some ⟨xh, 0, none⟩)) → LSt W2.heap.size wo ⟨p, T, A, S, m, X, n, F, ln, L⟩ (some (a1, k1, a2, k2, a3, k3)) none none none (some xg) (some xh) → (wo.heap[w.heap.size]? = some (planB p) ∧ wo.heap[w.heap.size + 1]? = some (wheelsB a n c)) → Below W2.heap.size W2 wo → R 9 [0, 3, 5, 8, 10, 11, 1] ac wo := by
      clear st4x2x7x10x11 st3x2x7x10x11 st4x2x7x10 st4x2x7x11 st2x2x7x10x11 st3x2x7x10 st3x2x7x11 st3x2x10x11 st4x2x7 st1x2x7x10x11 st2x2x7x10 st2x2x7x11 st2x2x10x11 st3x2x7 st3x2x10 st3x2x11 st0x2x7x10x11 st1x2x7x10 st1x2x7x11 st2x2x7 st2x2x10 st2x2x11 st3x2 st0x2x7x10 st0x2x7x11 st0x2x10x11 st0x7x10x11 st1x2x7 st1x2x10 st1x7x10 st1x2x11 st1x7x11
      intro a1 k1 a2 k2 a3 k3 xg xh ac wo hI n40 n42 n44 n47 n11 n13 hT hS hq
      rw [hR]
      refine rest_split [2, 7] (by kernel_rfl) rfl (fun i9 hi9 => ?_)
      have hi9' : i9 = 2 ∨ i9 = 7 := by simpa using hi9
      clear hi9
      rcases hi9' with rfl | rfl
      · have hn1 := below_new wo (.cells #[] 3)
        have hT1 := hT.newB hq.size
        have hS1 : (wo.alloc (.cells #[] 3)).heap[w.heap.size]? = some (planB p) ∧ (wo.alloc (.cells #[] 3)).heap[w.heap.size + 1]? = some (wheelsB a n c) := (And.intro (heap_lft hS.1 hn1) (heap_lft hS.2 hn1))
        have hq1 := below_thn hq hn1
        obtain ⟨nw, hwe⟩ : ∃ y, wo.alloc (.cells #[] 3) = y := ⟨_, rfl⟩
        rw [hwe] at hn1 hT1 hS1 hq1
        refine _root_.id (op_value (k := 2) (d := 41) (v := .slice (some ⟨wo.heap.size, 0, none⟩) 0 0) hI rfl rfl (by kernel_rfl) (Nat.lt_of_le_of_lt (by decide) hsz) (wanted_free rfl) (by simp [go_sem]; try rfl) (fun a' hI' n41' hk => ⟨by rw [hwe]; exact hS1, ?_⟩))
        replace n40 := hk _ _ n40 rfl
        replace n42 := hk _ _ n42 rfl
        replace n44 := hk _ _ n44 rfl
        replace n47 := hk _ _ n47 rfl
        replace n11 := hk _ _ n11 rfl
        replace n13 := hk _ _ n13 rfl
        have n41 := n41'
        replace hI := hI'
        clear hk hI' n41'
        obtain ⟨act9, rfl⟩ : ∃ x, x = a' := ⟨_, rfl⟩
        rw [hwe]
        refine Rest.same (d' := [0, 3, 5, 8, 2, 10, 11, 1]) ?_ (by kernel_rfl)
        rw [← hR]
        exact st1x2x10x11 a1 k1 a2 k2 a3 k3 wo.heap.size xg xh _ _ hI n40 n42 n41 n44 n47 n11 n13 hT1 hS1 hq1
      · have hn1 := below_new wo (.cells #[] 63)
        have hT1 := hT.newE hq.size
        have hS1 : (wo.alloc (.cells #[] 63)).heap[w.heap.size]? = some (planB p) ∧ (wo.alloc (.cells #[] 63)).heap[w.heap.size + 1]? = some (wheelsB a n c) := (And.intro (heap_lft hS.1 hn1) (heap_lft hS.2 hn1))
        have hq1 := below_thn hq hn1
        obtain ⟨nw, hwe⟩ : ∃ y, wo.alloc (.cells #[] 63) = y := ⟨_, rfl⟩
        rw [hwe] at hn1 hT1 hS1 hq1
        refine _root_.id (op_value (k := 7) (d := 46) (v := .slice (some ⟨wo.heap.size, 0, none⟩) 0 0) hI rfl rfl (by kernel_rfl) (Nat.lt_of_le_of_lt (by decide) hsz) (wanted_free rfl) (by simp [go_sem]; try rfl) (fun a' hI' n46' hk => ⟨by rw [hwe]; exact hS1, ?_⟩))
        replace n40 := hk _ _ n40 rfl
        replace n42 := hk _ _ n42 rfl
        replace n44 := hk _ _ n44 rfl
        replace n47 := hk _ _ n47 rfl
        replace n11 := hk _ _ n11 rfl
        replace n13 := hk _ _ n13 rfl
        have n46 := n46'
        replace hI := hI'
        clear hk hI' n46'
        obtain ⟨act9, rfl⟩ : ∃ x, x = a' := ⟨_, rfl⟩
        rw [hwe]
        refine Rest.same (d' := [0, 3, 5, 8, 7, 10, 11, 1]) ?_ (by kernel_rfl)
        rw [← hR]
        exact st1x7x10x11 a1 k1 a2 k2 a3 k3 wo.heap.size xg xh _ _ hI n40 n42 n44 n47 n46 n11 n13 hT1 hS1 hq1
    have st2x2 : ∀ (a1 : Option Addr) (k1 : Nat) (a2 : Option Addr) (k2 : Nat) (a3 : Option Addr) (k3 : Nat) (bb : Option Addr) (bk : Nat) (ac : Act) (wo : World), Kept (11 :: 12 :: 13 :: 14 :: List.range' 39 10) a0 ac → At ac 40 (.agg #[.int .i64 p.fr, .slice a1 p.tn k1, .int .i64 p.sd, .int .i64 p.ck, .slice a2 p.an k2, .slice a3 p.sn k3, .int .i64 p.bu]) → At ac 43 (.slice bb m bk) → At ac 44 (.agg #[.slice a n c]) → At ac 47 (.slice la ln lc) → LSt W2.heap.size wo ⟨p, T, A, S, m, X, n, F, ln, L⟩ (some (a1, k1, a2, k2, a3, k3)) (some (bb, m, bk)) none none none none → (wo.heap[w.heap.size]? = some (planB p) ∧ wo.heap[w.heap.size + 1]? = some (wheelsB a n c)) → Below W2.heap.size W2 wo → R 9 [0, 3, 5, 8, 2, 1, 4] ac wo := by
      clear st4x2x7x10x11 st3x2x7x10x11 st4x2x7x10 st4x2x7x11 st2x2x7x10x11 st3x2x7x10 st3x2x7x11 st3x2x10x11 st4x2x7 st1x2x7x10x11 st2x2x7x10 st2x2x7x11 st2x2x10x11 st3x2x7 st3x2x10 st3x2x11 st0x2x7x10x11 st1x2x7x10 st1x2x7x11 st1x2x10x11 st1x7x10x11 st0x2x7x10 st0x2x7x11 st0x2x10x11 st0x7x10x11 st1x2x7 st1x2x10 st1x7x10 st1x2x11 st1x7x11 st1x10x11
      intro a1 k1 a2 k2 a3 k3 bb bk ac wo hI n40 n43 n44 n47 hT hS hq
      rw [hR]
      refine rest_split [6, 7, 10, 11] (by kernel_rfl) rfl (fun i9 hi9 => ?_)
      have hi9' : i9 = 6 ∨ i9 = 7 ∨ i9 = 10 ∨ i9 = 11 := by simpa using hi9
      clear hi9
      rcases hi9' with rfl | rfl | rfl | rfl
      · refine _root_.id (op_call (k := 6) (d := 45) (R := fun v w' => ∃ dd dk, v = .agg #[.slice dd n dk] ∧ OwnNums w' wo.heap.size 3 1 dd n dk F ∧ Below wo.heap.size wo w') hI rfl rfl (by kernel_rfl) (Nat.lt_of_le_of_lt (by decide) hsz) (wanted_free rfl) ((rTwin_any a n c F (by have := HS.out; omega) HG0.out.2.2.1 _ (HFF2.out.below hq)).mono fun e w' g => by obtain ⟨d1, k1, h1, h2, h3⟩ := g; exact ⟨_, h1, d1, k1, rfl, h2, h3⟩) (by have e44 := n44; have f44 := n44.eval; unfold At at e44; simp [go_sem, e44]) ?_)
        intro v w' a' hR' hI' n45' hk
        obtain ⟨dd, dk, rfl, h1, hb⟩ := hR'
        have hT1 := hT.setD hb hq.size h1
        refine ⟨(And.intro (heap_lft hS.1 hb) (heap_lft hS.2 hb)), ?_⟩
        replace n40 := hk _ _ n40 rfl
        replace n43 := hk _ _ n43 rfl
        replace n44 := hk _ _ n44 rfl
        replace n47 := hk _ _ n47 rfl
        have n45 := n45'
        replace hI := hI'
        clear hk hI' n45'
        obtain ⟨act9, rfl⟩ : ∃ x, x = a' := ⟨_, rfl⟩
        have hS1 := (And.intro (heap_lft hS.1 hb) (heap_lft hS.2 hb))
        have hq1 := below_thn hq hb
        refine Rest.same (d' := [0, 3, 5, 8, 2, 1, 4, 6]) ?_ (by kernel_rfl)
        rw [← hR]
        exact st3x2 a1 k1 a2 k2 a3 k3 bb bk dd dk _ _ hI n40 n43 n45 n47 hT1 hS1 hq1
      · have hn1 := below_new wo (.cells #[] 63)
        have hT1 := hT.newE hq.size
        have hS1 : (wo.alloc (.cells #[] 63)).heap[w.heap.size]? = some (planB p) ∧ (wo.alloc (.cells #[] 63)).heap[w.heap.size + 1]? = some (wheelsB a n c) := (And.intro (heap_lft hS.1 hn1) (heap_lft hS.2 hn1))
        have hq1 := below_thn hq hn1
        obtain ⟨nw, hwe⟩ : ∃ y, wo.alloc (.cells #[] 63) = y := ⟨_, rfl⟩
        rw [hwe] at hn1 hT1 hS1 hq1
        refine _root_.id (op_value (k := 7) (d := 46) (v := .slice (some ⟨wo.heap.size, 0, none⟩) 0 0) hI rfl rfl (by kernel_rfl) (Nat.lt_of_le_of_lt (by decide) hsz) (wanted_free rfl) (by simp [go_sem]; try rfl) (fun a' hI' n46' hk => ⟨by rw [hwe]; exact hS1, ?_⟩))
        replace n40 := hk _ _ n40 rfl
        replace n43 := hk _ _ n43 rfl
        replace n44 := hk _ _ n44 rfl
        replace n47 := hk _ _ n47 rfl
        have n46 := n46'
        replace hI := hI'
        clear hk hI' n46'
        obtain ⟨act9, rfl⟩ : ∃ x, x = a' := ⟨_, rfl⟩
        rw [hwe]
        refine Rest.same (d' := [0, 3, 5, 8, 2, 7, 1, 4]) ?_ (by kernel_rfl)
        rw [← hR]
        exact st2x2x7 a1 k1 a2 k2 a3 k3 bb bk wo.heap.size _ _ hI n40 n43 n44 n47 n46 hT1 hS1 hq1
      · have hn1 := below_new wo (planB noPlan)
        have hT1 := hT.newG hq.size
        have hS1 : (wo.alloc (planB noPlan)).heap[w.heap.size]? = some (planB p) ∧ (wo.alloc (planB noPlan)).heap[w.heap.size + 1]? = some (wheelsB a n c) := (And.intro (heap_lft hS.1 hn1) (heap_lft hS.2 hn1))
        have hq1 := below_thn hq hn1
        obtain ⟨nw, hwe⟩ : ∃ y, wo.alloc (planB noPlan) = y := ⟨_, rfl⟩
        rw [hwe] at hn1 hT1 hS1 hq1
        refine _root_.id (op_value (k := 10) (d := 11) (v := .pointer (some ⟨wo.heap.size, 0, none⟩)) hI rfl rfl (by kernel_rfl) (Nat.lt_of_le_of_lt (by decide) hsz) (wanted_free rfl) (by simp [go_sem]; try rfl) (fun a' hI' n11' hk => ⟨by rw [show _ = nw from hwe]; exact hS1, ?_⟩))
        replace n40 := hk _ _ n40 rfl
        replace n43 := hk _ _ n43 rfl
        replace n44 := hk _ _ n44 rfl
        replace n47 := hk _ _ n47 rfl
        have n11 := n11'
        replace hI := hI'
        clear hk hI' n11'
        obtain ⟨act9, rfl⟩ : ∃ x, x = a' := ⟨_, rfl⟩
        rw [show World.alloc wo _ = nw from hwe]
        refine Rest.same (d' := [0, 3, 5, 8, 2, 10, 1, 4]) ?_ (by kernel_rfl)
        rw [← hR]
        exact st2x2x10 a1 k1 a2 k2 a3 k3 bb bk wo.heap.size _ _ hI n40 n43 n44 n47 n11 hT1 hS1 hq1
      · have hn1 := below_new wo (wheelsB none 0 0)
        have hT1 := hT.newH hq.size
        have hS1 : (wo.alloc (wheelsB none 0 0)).heap[w.heap.size]? = some (planB p) ∧ (wo.alloc (wheelsB none 0 0)).heap[w.heap.size + 1]? = some (wheelsB a n c) := (And.intro (heap_lft hS.1 hn1) (heap_lft hS.2 hn1))
        have hq1 := below_thn hq hn1
        obtain ⟨nw, hwe⟩ : ∃ y, wo.alloc (wheelsB none 0 0) = y := ⟨_, rfl⟩
        rw [hwe] at hn1 hT1 hS1 hq1
        refine _root_.id (op_value (k := 11) (d := 13) (v := .pointer (some ⟨wo.heap.size, 0, none⟩)) hI rfl rfl (by kernel_rfl) (Nat.lt_of_le_of_lt (by decide) hsz) (wanted_free rfl) (by simp [go_sem]; try rfl) (fun a' hI' n13' hk => ⟨by rw [show _ = nw from hwe]; exact hS1, ?_⟩))
        replace n40 := hk _ _ n40 rfl
        replace n43 := hk _ _ n43 rfl
        replace n44 := hk _ _ n44 rfl
        replace n47 := hk _ _ n47 rfl
        have n13 := n13'
        replace hI := hI'
        clear hk hI' n13'
        obtain ⟨act9, rfl⟩ : ∃ x, x = a' := ⟨_, rfl⟩
        rw [show World.alloc wo _ = nw from hwe]
        refine Rest.same (d' := [0, 3, 5, 8, 2, 11, 1, 4]) ?_ (by kernel_rfl)
        rw [← hR]
        exact st2x2x11 a1 k1 a2 k2 a3 k3 bb bk wo.heap.size _ _ hI n40 n43 n44 n47 n13 hT1 hS1 hq1
    have st0x2x7 : ∀ (bn : Nat) (en : Nat) (ac : Act) (wo : World), Kept (11 :: 12 :: 13 :: 14 :: List.range' 39 10) a0 ac → At ac 39 (.agg #[.int .i64 p.fr, .slice p.ta p.tn p.tc, .int .i64 p.sd, .int .i64 p.ck, .slice p.aa p.an p.ac, .slice p.sa p.sn p.sc, .int .i64 p.bu]) → At ac 42 (.slice wa m wk) → At ac 41 (.slice (some ⟨bn, 0, none⟩) 0 0) → At ac 44 (.agg #[.slice a n c]) → At ac 47 (.slice la ln lc) → At ac 46 (.slice (some ⟨en, 0, none⟩) 0 0) → LSt W2.heap.size wo ⟨p, T, A, S, m, X, n, F, ln, L⟩ none (some (some ⟨bn, 0, none⟩, 0, 0)) none (some (some ⟨en, 0, none⟩, 0, 0)) none none → (wo.heap[w.heap.size]? = some (planB p) ∧ wo.heap[w.heap.size + 1]? = some (wheelsB a n c)) → Below W2.heap.size W2 wo → R 10 [0, 3, 5, 8, 2, 7] ac wo := by
      clear st4x2x7x10x11 st3x2x7x10x11 st4x2x7x10 st4x2x7x11 st2x2x7x10x11 st3x2x7x10 st3x2x7x11 st3x2x10x11 st4x2x7 st1x2x7x10x11 st2x2x7x10 st2x2x7x11 st2x2x10x11 st3x2x7 st3x2x10 st3x2x11 st0x2x7x10x11 st1x2x7x10 st1x2x7x11 st1x2x10x11 st1x7x10x11 st2x2x7 st2x2x10 st2x2x11 st3x2 st0x2x10x11 st0x7x10x11 st1x2x10 st1x7x10 st1x2x11 st1x7x11 st1x10x11 st2x2
      intro bn en ac wo hI n39 n42 n41 n44 n47 n46 hT hS hq
      rw [hR]
      refine rest_split [1, 10, 11] (by kernel_rfl) rfl (fun i9 hi9 => ?_)
      have hi9' : i9 = 1 ∨ i9 = 10 ∨ i9 = 11 := by simpa using hi9
      clear hi9
      rcases hi9' with rfl | rfl | rfl
      · refine _root_.id (op_call (k := 1) (d := 40) (R := fun v w' => ∃ a1 k1 a2 k2 a3 k3, v = .agg #[.int .i64 p.fr, .slice a1 p.tn k1, .int .i64 p.sd, .int .i64 p.ck, .slice a2 p.an k2, .slice a3 p.sn k3, .int .i64 p.bu] ∧ OwnPlan w' wo.heap.size (p.moved a1 k1 a2 k2 a3 k3) T A S ∧ Below wo.heap.size wo w') hI rfl rfl (by kernel_rfl) (Nat.lt_of_le_of_lt (by decide) hsz) (wanted_free rfl) ((twin_any p T A S (by have := HN.out; omega) (by have := HN.out; omega) (by have := HN.out; omega) _ (HP2.out.below hq)).mono fun e w' g => by obtain ⟨a1, k1, a2, k2, a3, k3, h1, h2, h3⟩ := g; exact ⟨_, h1, a1, k1, a2, k2, a3, k3, rfl, h2, h3⟩) (by have e39 := n39; have f39 := n39.eval; unfold At at e39; simp [go_sem, e39]) ?_)
        intro v w' a' hR' hI' n40' hk
        obtain ⟨a1, k1, a2, k2, a3, k3, rfl, h1, hb⟩ := hR'
        have hT1 := hT.setC hb hq.size h1
        refine ⟨(And.intro (heap_lft hS.1 hb) (heap_lft hS.2 hb)), ?_⟩
        replace n39 := hk _ _ n39 rfl
        replace n42 := hk _ _ n42 rfl
        replace n41 := hk _ _ n41 rfl
        replace n44 := hk _ _ n44 rfl
        replace n47 := hk _ _ n47 rfl
        replace n46 := hk _ _ n46 rfl
        have n40 := n40'
        replace hI := hI'
        clear hk hI' n40'
        obtain ⟨act9, rfl⟩ : ∃ x, x = a' := ⟨_, rfl⟩
        have hS1 := (And.intro (heap_lft hS.1 hb) (heap_lft hS.2 hb))
        have hq1 := below_thn hq hb
        refine Rest.same (d' := [0, 3, 5, 8, 2, 7, 1]) ?_ (by kernel_rfl)
        rw [← hR]
        exact st1x2x7 a1 k1 a2 k2 a3 k3 bn en _ _ hI n40 n42 n41 n44 n47 n46 hT1 hS1 hq1
      · have hn1 := below_new wo (planB noPlan)
        have hT1 := hT.newG hq.size
        have hS1 : (wo.alloc (planB noPlan)).heap[w.heap.size]? = some (planB p) ∧ (wo.alloc (planB noPlan)).heap[w.heap.size + 1]? = some (wheelsB a n c) := (And.intro (heap_lft hS.1 hn1) (heap_lft hS.2 hn1))
        have hq1 := below_thn hq hn1
        obtain ⟨nw, hwe⟩ : ∃ y, wo.alloc (planB noPlan) = y := ⟨_, rfl⟩
        rw [hwe] at hn1 hT1 hS1 hq1
        refine _root_.id (op_value (k := 10) (d := 11) (v := .pointer (some ⟨wo.heap.size, 0, none⟩)) hI rfl rfl (by kernel_rfl) (Nat.lt_of_le_of_lt (by decide) hsz) (wanted_free rfl) (by simp [go_sem]; try rfl) (fun a' hI' n11' hk => ⟨by rw [show _ = nw from hwe]; exact hS1, ?_⟩))
        replace n39 := hk _ _ n39 rfl
        replace n42 := hk _ _ n42 rfl
        replace n41 := hk _ _ n41 rfl
        replace n44 := hk _ _ n44 rfl
        replace n47 := hk _ _ n47 rfl
        replace n46 := hk _ _ n46 rfl
        have n11 := n11'
        replace hI := hI'
        clear hk hI' n11'
        obtain ⟨act9, rfl⟩ : ∃ x, x = a' := ⟨_, rfl⟩
        rw [show World.alloc wo _ = nw from hwe]
        refine Rest.same (d' := [0, 3, 5, 8, 2, 7, 10]) ?_ (by kernel_rfl)
        rw [← hR]
        exact st0x2x7x10 bn en wo.heap.size _ _ hI n39 n42 n41 n44 n47 n46 n11 hT1 hS1 hq1
      · have hn1 := below_new wo (wheelsB none 0 0)
        have hT1 := hT.newH hq.size
        have hS1 : (wo.alloc (wheelsB none 0 0)).heap[w.heap.size]? = some (planB p) ∧ (wo.alloc (wheelsB none 0 0)).heap[w.heap.size + 1]? = some (wheelsB a n c) := (And.intro (heap_lft hS.1 hn1) (heap_lft hS.2 hn1))
        have hq1 := below_thn hq hn1
        obtain ⟨nw, hwe⟩ : ∃ y, wo.alloc (wheelsB none 0 0) = y := ⟨_, rfl⟩
        rw [hwe] at hn1 hT1 hS1 hq1
        refine _root_.id (op_value (k := 11) (d := 13) (v := .pointer (some ⟨wo.heap.size, 0, none⟩)) hI rfl rfl (by kernel_rfl) (Nat.lt_of_le_of_lt (by decide) hsz) (wanted_free rfl) (by simp [go_sem]; try rfl) (fun a' hI' n13' hk => ⟨by rw [show _ = nw from hwe]; exact hS1, ?_⟩))
        replace n39 := hk _ _ n39 rfl
        replace n42 := hk _ _ n42 rfl
        replace n41 := hk _ _ n41 rfl
        replace n44 := hk _ _ n44 rfl
        replace n47 := hk _ _ n47 rfl
        replace n46 := hk _ _ n46 rfl
        have n13 := n13'
        replace hI := hI'
        clear hk hI' n13'
        obtain ⟨act9, rfl⟩ : ∃ x, x = a' := ⟨_, rfl⟩
        rw [show World.alloc wo _ = nw from hwe]
        refine Rest.same (d' := [0, 3, 5, 8, 2, 7, 11]) ?_ (by kernel_rfl)
        rw [← hR]
        exact st0x2x7x11 bn en wo.heap.size _ _ hI n39 n42 n41 n44 n47 n46 n13 hT1 hS1 hq1
    have st0x2x10 : ∀ (bn : Nat) (xg : Nat) (ac : Act) (wo : World), Kept (11 :: 12 :: 13 :: 14 :: List.range' 39 10) a0 ac → At ac 39 (.agg #[.int .i64 p.fr, .slice p.ta p.tn p.tc, .int .i64 p.sd, .int .i64 p.ck, .slice p.aa p.an p.ac, .slice p.sa p.sn p.sc, .int .i64 p.bu]) → At ac 42 (.slice wa m wk) → At ac 41 (.slice (some ⟨bn, 0, none⟩) 0 0) → At ac 44 (.agg #[.slice a n c]) → At ac 47 (.slice la ln lc) → At ac 11 (.pointer (some ⟨xg, 0, none⟩)) → LSt W2.heap.size wo ⟨p, T, A, S, m, X, n, F, ln, L⟩ none (some (some ⟨bn, 0, none⟩, 0, 0)) none none (some xg) none → (wo.heap[w.heap.size]? = some (planB p) ∧ wo.heap[w.heap.size + 1]? = some (wheelsB a n c)) → Below W2.heap.size W2 wo → R 10 [0, 3, 5, 8, 2, 10] ac wo := by
      clear st4x2x7x10x11 st3x2x7x10x11 st4x2x7x10 st4x2x7x11 st2x2x7x10x11 st3x2x7x10 st3x2x7x11 st3x2x10x11 st4x2x7 st1x2x7x10x11 st2x2x7x10 st2x2x7x11 st2x2x10x11 st3x2x7 st3x2x10 st3x2x11 st0x2x7x10x11 st1x2x7x10 st1x2x7x11 st1x2x10x11 st1x7x10x11 st2x2x7 st2x2x10 st2x2x11 st3x2 st0x2x7x11 st0x7x10x11 st1x2x7 st1x7x10 st1x2x11 st1x7x11 st1x10x11 st2x2 st0x2x7
      intro bn xg ac wo hI n39 n42 n41 n44 n47 n11 hT hS hq
      rw [hR]
      refine rest_split [1, 7, 11] (by kernel_rfl) rfl (fun i9 hi9 => ?_)
      have hi9' : i9 = 1 ∨ i9 = 7 ∨ i9 = 11 := by simpa using hi9
      clear hi9
      rcases hi9' with rfl | rfl | rfl
      · refine _root_.id (op_call (k := 1) (d := 40) (R := fun v w' => ∃ a1 k1 a2 k2 a3 k3, v = .agg #[.int .i64 p.fr, .slice a1 p.tn k1, .int .i64 p.sd, .int .i64 p.ck, .slice a2 p.an k2, .slice a3 p.sn k3, .int .i64 p.bu] ∧ OwnPlan w' wo.heap.size (p.moved a1 k1 a2 k2 a3 k3) T A S ∧ Below wo.heap.size wo w') hI rfl rfl (by kernel_rfl) (Nat.lt_of_le_of_lt (by decide) hsz) (wanted_free rfl) ((twin_any p T A S (by have := HN.out; omega) (by have := HN.out; omega) (by have := HN.out; omega) _ (HP2.out.below hq)).mono fun e w' g => by obtain ⟨a1, k1, a2, k2, a3, k3, h1, h2, h3⟩ := g; exact ⟨_, h1, a1, k1, a2, k2, a3, k3, rfl, h2, h3⟩) (by have e39 := n39; have f39 := n39.eval; unfold At at e39; simp [go_sem, e39]) ?_)
        intro v w' a' hR' hI' n40' hk
        obtain ⟨a1, k1, a2, k2, a3, k3, rfl, h1, hb⟩ := hR'
        have hT1 := hT.setC hb hq.size h1
        refine ⟨(And.intro (heap_lft hS.1 hb) (heap_lft hS.2 hb)), ?_⟩
        replace n39 := hk _ _ n39 rfl
        replace n42 := hk _ _ n42 rfl
        replace n41 := hk _ _ n41 rfl
        replace n44 := hk _ _ n44 rfl
        replace n47 := hk _ _ n47 rfl
        replace n11 := hk _ _ n11 rfl
        have n40 := n40'
        replace hI := hI'
        clear hk hI' n40'
        obtain ⟨act9, rfl⟩ : ∃ x, x = a' := ⟨_, rfl⟩
        have hS1 := (And.intro (heap_lft hS.1 hb) (heap_lft hS.2 hb))
        have hq1 := below_thn hq hb
        refine Rest.same (d' := [0, 3, 5, 8, 2, 10, 1]) ?_ (by kernel_rfl)
        rw [← hR]
        exact st1x2x10 a1 k1 a2 k2 a3 k3 bn xg _ _ hI n40 n42 n41 n44 n47 n11 hT1 hS1 hq1
      · have hn1 := below_new wo (.cells #[] 63)
        have hT1 := hT.newE hq.size
        have hS1 : (wo.alloc (.cells #[] 63)).heap[w.heap.size]? = some (planB p) ∧ (wo.alloc (.cells #[] 63)).heap[w.heap.size + 1]? = some (wheelsB a n c) := (And.intro (heap_lft hS.1 hn1) (heap_lft hS.2 hn1))
        have hq1 := below_thn hq hn1
        obtain ⟨nw, hwe⟩ : ∃ y, wo.alloc (.cells #[] 63) = y := ⟨_, rfl⟩
        rw [hwe] at hn1 hT1 hS1 hq1
        refine _root_.id (op_value (k := 7) (d := 46) (v := .slice (some ⟨wo.heap.size, 0, none⟩) 0 0) hI rfl rfl (by kernel_rfl) (Nat.lt_of_le_of_lt (by decide) hsz) (wanted_free rfl) (by simp [go_sem]; try rfl) (fun a' hI' n46' hk => ⟨by rw [hwe]; exact hS1, ?_⟩))
        replace n39 := hk _ _ n39 rfl
        replace n42 := hk _ _ n42 rfl
        replace n41 := hk _ _ n41 rfl
        replace n44 := hk _ _ n44 rfl
        replace n47 := hk _ _ n47 rfl
        replace n11 := hk _ _ n11 rfl
        have n46 := n46'
        replace hI := hI'
        clear hk hI' n46'
        obtain ⟨act9, rfl⟩ : ∃ x, x = a' := ⟨_, rfl⟩
        rw [hwe]
        refine Rest.same (d' := [0, 3, 5, 8, 2, 7, 10]) ?_ (by kernel_rfl)
        rw [← hR]
        exact st0x2x7x10 bn wo.heap.size xg _ _ hI n39 n42 n41 n44 n47 n46 n11 hT1 hS1 hq1
      · have hn1 := below_new wo (wheelsB none 0 0)
        have hT1 := hT.newH hq.size
        have hS1 : (wo.alloc (wheelsB none 0 0)).heap[w.heap.size]? = some (planB p) ∧ (wo.alloc (wheelsB none 0 0)).heap[w.heap.size + 1]? = some (wheelsB a n c) := (And.intro (heap_lft hS.1 hn1) (heap_lft hS.2 hn1))
        have hq1 := below_thn hq hn1
        obtain ⟨nw, hwe⟩ : ∃ y, wo.alloc (wheelsB none 0 0) = y := ⟨_, rfl⟩
        rw [hwe] at hn1 hT1 hS1 hq1
        refine _root_.id (op_value (k := 11) (d := 13) (v := .pointer (some ⟨wo.heap.size, 0, none⟩)) hI rfl rfl (by kernel_rfl) (Nat.lt_of_le_of_lt (by decide) hsz) (wanted_free rfl) (by simp [go_sem]; try rfl) (fun a' hI' n13' hk => ⟨by rw [show _ = nw from hwe]; exact hS1, ?_⟩))
        replace n39 := hk _ _ n39 rfl
        replace n42 := hk _ _ n42 rfl
        replace n41 := hk _ _ n41 rfl
        replace n44 := hk _ _ n44 rfl
        replace n47 := hk _ _ n47 rfl
        replace n11 := hk _ _ n11 rfl
        have n13 := n13'
        replace hI := hI'
        clear hk hI' n13'
        obtain ⟨act9, rfl⟩ : ∃ x, x = a' := ⟨_, rfl⟩
        rw [show World.alloc wo _ = nw from hwe]
        refine Rest.same (d' := [0, 3, 5, 8, 2, 10, 11]) ?_ (by kernel_rfl)
        rw [← hR]
        exact st0x2x10x11 bn xg wo.heap.size _ _ hI n39 n42 n41 n44 n47 n11 n13 hT1 hS1 hq1
    have st0x7x10 : ∀ (en : Nat) (xg : Nat) (ac : Act) (wo : World), Kept (11 :: 12 :: 13 :: 14 :: List.range' 39 10) a0 ac → At ac 39 (.agg #[.int .i64 p.fr, .slice p.ta p.tn p.tc, .int .i64 p.sd, .int .i64 p.ck, .slice p.aa p.an p.ac, .slice p.sa p.sn p.sc, .int .i64 p.bu]) → At ac 42 (.slice wa m wk) → At ac 44 (.agg #[.slice a n c]) → At ac 47 (.slice la ln lc) → At ac 46 (.slice (some ⟨en, 0, none⟩) 0 0) → At ac 11 (.pointer (some ⟨xg, 0, none⟩)) → LSt W2.heap.size wo ⟨p, T, A, S, m, X, n, F, ln, L⟩ none none none (some (some ⟨en, 0, none⟩, 0, 0)) (some xg) none → (wo.heap[w.heap.size]? = some (planB p) ∧ wo.heap[w.heap.size + 1]? = some (wheelsB a n c)) → Below W2.heap.size W2 wo → R 10 [0, 3, 5, 8, 7, 10] ac wo := by
      clear st4x2x7x10x11 st3x2x7x10x11 st4x2x7x10 st4x2x7x11 st2x2x7x10x11 st3x2x7x10 st3x2x7x11 st3x2x10x11 st4x2x7 st1x2x7x10x11 st2x2x7x10 st2x2x7x11 st2x2x10x11 st3x2x7 st3x2x10 st3x2x11 st0x2x7x10x11 st1x2x7x10 st1x2x7x11 st1x2x10x11 st1x7x10x11 st2x2x7 st2x2x10 st2x2x11 st3x2 st0x2x7x11 st0x2x10x11 st1x2x7 st1x2x10 st1x2x11 st1x7x11 st1x10x11 st2x2 st0x2x7 st0x2x10
      intro en xg ac wo hI n39 n42 n44 n47 n46 n11 hT hS hq
      rw [hR]
      refine rest_split [1, 2, 11] (by kernel_rfl) rfl (fun i9 hi9 => ?_)
      have hi9' : i9 = 1 ∨ i9 = 2 ∨ i9 = 11 := by simpa using hi9
      clear hi9
      rcases hi9' with rfl | rfl | rfl
      · refine _root_.id (op_call (k := 1) (d := 40) (R := fun v w' => ∃ a1 k1 a2 k2 a3 k3, v = .agg #[.int .i64 p.fr, .slice a1 p.tn k1, .int .i64 p.sd, .int .i64 p.ck, .slice a2 p.an k2, .slice a3 p.sn k3, .int .i64 p.bu] ∧ OwnPlan w' wo.heap.size (p.moved a1 k1 a2 k2 a3 k3) T A S ∧ Below wo.heap.size wo w') hI rfl rfl (by kernel_rfl) (Nat.lt_of_le_of_lt (by decide) hsz) (wanted_free rfl) ((twin_any p T A S (by have := HN.out; omega) (by have := HN.out; omega) (by have := HN.out; omega) _ (HP2.out.below hq)).mono fun e w' g => by obtain ⟨a1, k1, a2, k2, a3, k3, h1, h2, h3⟩ := g; exact ⟨_, h1, a1, k1, a2, k2, a3, k3, rfl, h2, h3⟩) (by have e39 := n39; have f39 := n39.eval; unfold At at e39; simp [go_sem, e39]) ?_)
        intro v w' a' hR' hI' n40' hk
        obtain ⟨a1, k1, a2, k2, a3, k3, rfl, h1, hb⟩ := hR'
        have hT1 := hT.setC hb hq.size h1
        refine ⟨(And.intro (heap_lft hS.1 hb) (heap_lft hS.2 hb)), ?_⟩
        replace n39 := hk _ _ n39 rfl
        replace n42 := hk _ _ n42 rfl
        replace n44 := hk _ _ n44 rfl
        replace n47 := hk _ _ n47 rfl
        replace n46 := hk _ _ n46 rfl
        replace n11 := hk _ _ n11 rfl
        have n40 := n40'
        replace hI := hI'
        clear hk hI' n40'
        obtain ⟨act9, rfl⟩ : ∃ x, x = a' := ⟨_, rfl⟩
        have hS1 := (And.intro (heap_lft hS.1 hb) (heap_lft hS.2 hb))
        have hq1 := below_thn hq hb
        refine Rest.same (d' := [0, 3, 5, 8, 7, 10, 1]) ?_ (by kernel_rfl)
        rw [← hR]
        exact st1x7x10 a1 k1 a2 k2 a3 k3 en xg _ _ hI n40 n42 n44 n47 n46 n11 hT1 hS1 hq1
      · have hn1 := below_new wo (.cells #[] 3)
        have hT1 := hT.newB hq.size
        have hS1 : (wo.alloc (.cells #[] 3)).heap[w.heap.size]? = some (planB p) ∧ (wo.alloc (.cells #[] 3)).heap[w.heap.size + 1]? = some (wheelsB a n c) := (And.intro (heap_lft hS.1 hn1) (heap_lft hS.2 hn1))
        have hq1 := below_thn hq hn1
        obtain ⟨nw, hwe⟩ : ∃ y, wo.alloc (.cells #[] 3) = y := ⟨_, rfl⟩
        rw [hwe] at hn1 hT1 hS1 hq1
        refine _root_.id (op_value (k := 2) (d := 41) (v := .slice (some ⟨wo.heap.size, 0, none⟩) 0 0) hI rfl rfl (by kernel_rfl) (Nat.lt_of_le_of_lt (by decide) hsz) (wanted_free rfl) (by simp [go_sem]; try rfl) (fun a' hI' n41' hk => ⟨by rw [hwe]; exact hS1, ?_⟩))
        replace n39 := hk _ _ n39 rfl
        replace n42 := hk _ _ n42 rfl
        replace n44 := hk _ _ n44 rfl
        replace n47 := hk _ _ n47 rfl
        replace n46 := hk _ _ n46 rfl
        replace n11 := hk _ _ n11 rfl
        have n41 := n41'
        replace hI := hI'
        clear hk hI' n41'
        obtain ⟨act9, rfl⟩ : ∃ x, x = a' := ⟨_, rfl⟩
        rw [hwe]
        refine Rest.same (d' := [0, 3, 5, 8, 2, 7, 10]) ?_ (by kernel_rfl)
        rw [← hR]
        exact st0x2x7x10 wo.heap.size en xg _ _ hI n39 n42 n41 n44 n47 n46 n11 hT1 hS1 hq1
      · have hn1 := below_new wo (wheelsB none 0 0)
        have hT1 := hT.newH hq.size
        have hS1 : (wo.alloc (wheelsB none 0 0)).heap[w.heap.size]? = some (planB p) ∧ (wo.alloc (wheelsB none 0 0)).heap[w.heap.size + 1]? = some (wheelsB a n c) := (And.intro (heap_lft hS.1 hn1) (heap_lft hS.2 hn1))
        have hq1 := below_thn hq hn1
        obtain ⟨nw, hwe⟩ : ∃ y, wo.alloc (wheelsB none 0 0) = y := ⟨_, rfl⟩
        rw [hwe] at hn1 hT1 hS1 hq1
        refine _root_.id (op_value (k := 11) (d := 13) (v := .pointer (some ⟨wo.heap.size, 0, none⟩)) hI rfl rfl (by kernel_rfl) (Nat.lt_of_le_of_lt (by decide) hsz) (wanted_free rfl) (by simp [go_sem]; try rfl) (fun a' hI' n13' hk => ⟨by rw [show _ = nw from hwe]; exact hS1, ?_⟩))
        replace n39 := hk _ _ n39 rfl
        replace n42 := hk _ _ n42 rfl
        replace n44 := hk _ _ n44 rfl
        replace n47 := hk _ _ n47 rfl
        replace n46 := hk _ _ n46 rfl
        replace n11 := hk _ _ n11 rfl
        have n13 := n13'
        replace hI := hI'
        clear hk hI' n13'
        obtain ⟨act9, rfl⟩ : ∃ x, x = a' := ⟨_, rfl⟩
        rw [show World.alloc wo _ = nw from hwe]
        refine Rest.same (d' := [0, 3, 5, 8, 7, 10, 11]) ?_ (by kernel_rfl)
        rw [← hR]
        exact st0x7x10x11 en xg wo.heap.size _ _ hI n39 n42 n44 n47 n46 n11 n13 hT1 hS1 hq1
    have st0x2x11 : ∀ (bn : Nat) (xh : Nat) (ac : Act) (wo : World), Kept (11 :: 12 :: 13 :: 14 :: List.range' 39 10) a0 ac → At ac 39 (.agg #[.int .i64 p.fr, .slice p.ta p.tn p.tc, .int .i64 p.sd, .int .i64 p.ck, .slice p.aa p.an p.ac, .slice p.sa p.sn p.sc, .int .i64 p.bu]) → At ac 42 (.slice wa m wk) → At ac 41 (.slice (some ⟨bn, 0, none⟩) 0 0) → At ac 44 (.agg #[.slice a n c]) → At ac 47 (.slice la ln lc) → At ac 13 (.pointer (some ⟨xh, 0, none⟩)) → LSt W2.heap.size wo ⟨p, T, A, S, m, X, n, F, ln, L⟩ none (some (some ⟨bn, 0, none⟩, 0, 0)) none none none (some xh) → (wo.heap[w.heap.size]? = some (planB p) ∧ wo.heap[w.heap.size + 1]? = some (wheelsB a n c)) → Below W2.heap.size W2 wo → R 10 [0, 3, 5, 8, 2, 11] ac wo := by
      clear st4x2x7x10x11 st3x2x7x10x11 st4x2x7x10 st4x2x7x11 st2x2x7x10x11 st3x2x7x10 st3x2x7x11 st3x2x10x11 st4x2x7 st1x2x7x10x11 st2x2x7x10 st2x2x7x11 st2x2x10x11 st3x2x7 st3x2x10 st3x2x11 st0x2x7x10x11 st1x2x7x10 st1x2x7x11 st1x2x10x11 st1x7x10x11 st2x2x7 st2x2x10 st2x2x11 st3x2 st0x2x7x10 st0x7x10x11 st1x2x7 st1x2x10 st1x7x10 st1x7x11 st1x10x11 st2x2 st0x2x7 st0x2x10 st0x7x10
      intro bn xh ac wo hI n39 n42 n41 n44 n47 n13 hT hS hq
      rw [hR]
      refine rest_split [1, 7, 10] (by kernel_rfl) rfl (fun i9 hi9 => ?_)
      have hi9' : i9 = 1 ∨ i9 = 7 ∨ i9 = 10 := by simpa using hi9
      clear hi9
      rcases hi9' with rfl | rfl | rfl
      · refine _root_.id (op_call (k := 1) (d := 40) (R := fun v w' => ∃ a1 k1 a2 k2 a3 k3, v = .agg #[.int .i64 p.fr, .slice a1 p.tn k1, .int .i64 p.sd, .int .i64 p.ck, .slice a2 p.an k2, .slice a3 p.sn k3, .int .i64 p.bu] ∧ OwnPlan w' wo.heap.size (p.moved a1 k1 a2 k2 a3 k3) T A S ∧ Below wo.heap.size wo w') hI rfl rfl (by kernel_rfl) (Nat.lt_of_le_of_lt (by decide) hsz) (wanted_free rfl) ((twin_any p T A S (by have := HN.out; omega) (by have := HN.out; omega) (by have := HN.out; omega) _ (HP2.out.below hq)).mono fun e w' g => by obtain ⟨a1, k1, a2, k2, a3, k3, h1, h2, h3⟩ := g; exact ⟨_, h1, a1, k1, a2, k2, a3, k3, rfl, h2, h3⟩) (by have e39 := n39; have f39 := n39.eval; unfold At at e39; simp [go_sem, e39]) ?_)
        intro v w' a' hR' hI' n40' hk
        obtain ⟨a1, k1, a2, k2, a3, k3, rfl, h1, hb⟩ := hR'
        have hT1 := hT.setC hb hq.size h1
        refine ⟨(And.intro (heap_lft hS.1 hb) (heap_lft hS.2 hb)), ?_⟩
        replace n39 := hk _ _ n39 rfl
        replace n42 := hk _ _ n42 rfl
        replace n41 := hk _ _ n41 rfl
        replace n44 := hk _ _ n44 rfl
        replace n47 := hk _ _ n47 rfl
        replace n13 := hk _ _ n13 rfl
        have n40 := n40'
        replace hI := hI'
        clear hk hI' n40'
        obtain ⟨act9, rfl⟩ : ∃ x, x = a' := ⟨_, rfl⟩
        have hS1 := (And.intro (heap_lft hS.1 hb) (heap_lft hS.2 hb))
        have hq1 := below_thn hq hb
        refine Rest.same (d' := [0, 3, 5, 8, 2, 11, 1]) ?_ (by kernel_rfl)
        rw [← hR]
        exact st1x2x11 a1 k1 a2 k2 a3 k3 bn xh _ _ hI n40 n42 n41 n44 n47 n13 hT1 hS1 hq1
      · have hn1 := below_new wo (.cells #[] 63)
        have hT1 := hT.newE hq.size
        have hS1 : (wo.alloc (.cells #[] 63)).heap[w.heap.size]? = some (planB p) ∧ (wo.alloc (.cells #[] 63)).heap[w.heap.size + 1]? = some (wheelsB a n c) := (And.intro (heap_lft hS.1 hn1) (heap_lft hS.2 hn1))
        have hq1 := below_thn hq hn1
        obtain ⟨nw, hwe⟩ : ∃ y, wo.alloc (.cells #[] 63) = y := ⟨_, rfl⟩
        rw [hwe] at hn1 hT1 hS1 hq1
        refine _root_.id (op_value (k := 7) (d := 46) (v := .slice (some ⟨wo.heap.size, 0, none⟩) 0 0) hI rfl rfl (by kernel_rfl) (Nat.lt_of_le_of_lt (by decide) hsz) (wanted_free rfl) (by simp [go_sem]; try rfl) (fun a' hI' n46' hk => ⟨by rw [hwe]; exact hS1, ?_⟩))
        replace n39 := hk _ _ n39 rfl
        replace n42 := hk _ _ n42 rfl
        replace n41 := hk _ _ n41 rfl
        replace n44 := hk _ _ n44 rfl
        replace n47 := hk _ _ n47 rfl
        replace n13 := hk _ _ n13 rfl
        have n46 := n46'
        replace hI := hI'
        clear hk hI' n46'
        obtain ⟨act9, rfl⟩ : ∃ x, x = a' := ⟨_, rfl⟩
        rw [hwe]
        refine Rest.same (d' := [0, 3, 5, 8, 2, 7, 11]) ?_ (by kernel_rfl)
        rw [← hR]
        exact st0x2x7x11 bn wo.heap.size xh _ _ hI n39 n42 n41 n44 n47 n46 n13 hT1 hS1 hq1
      · have hn1 := below_new wo (planB noPlan)
        have hT1 := hT.newG hq.size
        have hS1 : (wo.alloc (planB noPlan)).heap[w.heap.size]? = some (planB p) ∧ (wo.alloc (planB noPlan)).heap[w.heap.size + 1]? = some (wheelsB a n c) := (And.intro (heap_lft hS.1 hn1) (heap_lft hS.2 hn1))
        have hq1 := below_thn hq hn1
        obtain ⟨nw, hwe⟩ : ∃ y, wo.alloc (planB noPlan) = y := ⟨_, rfl⟩
        rw [hwe] at hn1 hT1 hS1 hq1
        refine _root_.id (op_value (k := 10) (d := 11) (v := .pointer (some ⟨wo.heap.size, 0, none⟩)) hI rfl rfl (by kernel_rfl) (Nat.lt_of_le_of_lt (by decide) hsz) (wanted_free rfl) (by simp [go_sem]; try rfl) (fun a' hI' n11' hk => ⟨by rw [show _ = nw from hwe]; exact hS1, ?_⟩))
        replace n39 := hk _ _ n39 rfl
        replace n42 := hk _ _ n42 rfl
        replace n41 := hk _ _ n41 rfl
        replace n44 := hk _ _ n44 rfl
        replace n47 := hk _ _ n47 rfl
        replace n13 := hk _ _ n13 rfl
        have n11 := n11'
        replace hI := hI'
        clear hk hI' n11'
        obtain ⟨act9, rfl⟩ : ∃ x, x = a' := ⟨_, rfl⟩
        rw [show World.alloc wo _ = nw from hwe]
        refine Rest.same (d' := [0, 3, 5, 8, 2, 10, 11]) ?_ (by kernel_rfl)
        rw [← hR]
        exact st0x2x10x11 bn wo.heap.size xh _ _ hI n39 n42 n41 n44 n47 n11 n13 hT1 hS1 hq1
    have st0x7x11 : ∀ (en : Nat) (xh : Nat) (ac : Act) (wo : World), Kept (11 :: 12 :: 13 :: 14 :: List.range' 39 10) a0 ac → At ac 39 (.agg #[.int .i64 p.fr, .slice p.ta p.tn p.tc, .int .i64 p.sd, .int .i64 p.ck, .slice p.aa p.an p.ac, .slice p.sa p.sn p.sc, .int .i64 p.bu]) → At ac 42 (.slice wa m wk) → At ac 44 (.agg #[.slice a n c]) → At ac 47 (.slice la ln lc) → At ac 46 (.slice (some ⟨en, 0, none⟩) 0 0) → At ac 13 (.pointer (some ⟨xh, 0, none⟩)) → LSt W2.heap.size wo ⟨p, T, A, S, m, X, n, F, ln, L⟩ none none none (some (some ⟨en, 0, none⟩, 0, 0)) none (some xh) → (wo.heap[w.heap.size]? = some (planB p) ∧ wo.heap[w.heap.size + 1]? = some (wheelsB a n c)) → Below W2.heap.size W2 wo → R 10 [0, 3, 5, 8, 7, 11] ac wo := by
      clear st4x2x7x10x11 st3x2x7x10x11 st4x2x7x10 st4x2x7x11 st2x2x7x10x11 st3x2x7x10 st3x2x7x11 st3x2x10x11 st4x2x7 st1x2x7x10x11 st2x2x7x10 st2x2x7x11 st2x2x10x11 st3x2x7 st3x2x10 st3x2x11 st0x2x7x10x11 st1x2x7x10 st1x2x7x11 st1x2x10x11 st1x7x10x11 st2x2x7 st2x2x10 st2x2x11 st3x2 st0x2x7x10 st0x2x10x11 st1x2x7 st1x2x10 st1x7x10 st1x2x11 st1x10x11 st2x2 st0x2x7 st0x2x10 st0x7x10 st0x2x11
      intro en xh ac wo hI n39 n42 n44 n47 n46 n13 hT hS hq
      rw [hR]
      refine rest_split [1, 2, 10] (by kernel_rfl) rfl (fun i9 hi9 => ?_)
      have hi9' : i9 = 1 ∨ i9 = 2 ∨ i9 = 10 := by simpa using hi9
      clear hi9
      rcases hi9' with rfl | rfl | rfl
      · refine _root_.id (op_call (k := 1) (d := 40) (R := fun v w' => ∃ a1 k1 a2 k2 a3 k3, v = .agg #[.int .i64 p.fr, .slice a1 p.tn k1, .int .i64 p.sd, .int .i64 p.ck, .slice a2 p.an k2, .slice a3 p.sn k3, .int .i64 p.bu] ∧ OwnPlan w' wo.heap.size (p.moved a1 k1 a2 k2 a3 k3) T A S ∧ Below wo.heap.size wo w') hI rfl rfl (by kernel_rfl) (Nat.lt_of_le_of_lt (by decide) hsz) (wanted_free rfl) ((twin_any p T A S (by have := HN.out; omega) (by have := HN.out; omega) (by have := HN.out; omega) _ (HP2.out.below hq)).mono fun e w' g => by obtain ⟨a1, k1, a2, k2, a3, k3, h1, h2, h3⟩ := g; exact ⟨_, h1, a1, k1, a2, k2, a3, k3, rfl, h2, h3⟩) (by have e39 := n39; have f39 := n39.eval; unfold At at e39; simp [go_sem, e39]) ?_)
        intro v w' a' hR' hI' n40' hk
        obtain ⟨a1, k1, a2, k2, a3, k3, rfl, h1, hb⟩ := hR'
        have hT1 := hT.setC hb hq.size h1
        refine ⟨(And.intro (heap_lft hS.1 hb) (heap_lft hS.2 hb)), ?_⟩
        replace n39 := hk _ _ n39 rfl
        replace n42 := hk _ _ n42 rfl
        replace n44 := hk _ _ n44 rfl
        replace n47 := hk _ _ n47 rfl
        replace n46 := hk _ _ n46 rfl
        replace n13 := hk _ _ n13 rfl
        have n40 := n40'
        replace hI := hI'
        clear hk hI' n40'
        obtain ⟨act9, rfl⟩ : ∃ x, x = a' := ⟨_, rfl⟩
        have hS1 := (And.intro (heap_lft hS.1 hb) (heap_lft hS.2 hb))
        have hq1 := below_thn hq hb
        refine Rest.same (d' := [0, 3, 5, 8, 7, 11, 1]) ?_ (by kernel_rfl)
        rw [← hR]
        exact st1x7x11 a1 k1 a2 k2 a3 k3 en xh _ _ hI n40 n42 n44 n47 n46 n13 hT1 hS1 hq1
      · have hn1 := below_new wo (.cells #[] 3)
        have hT1 := hT.newB hq.size
        have hS1 : (wo.alloc (.cells #[] 3)).heap[w.heap.size]? = some (planB p) ∧ (wo.alloc (.cells #[] 3)).heap[w.heap.size + 1]? = some (wheelsB a n c) := (And.intro (heap_lft hS.1 hn1) (heap_lft hS.2 hn1))
        have hq1 := below_thn hq hn1
        obtain ⟨nw, hwe⟩ : ∃ y, wo.alloc (.cells #[] 3) = y := ⟨_, rfl⟩
        rw [hwe] at hn1 hT1 hS1 hq1
        refine _root_.id (op_value (k := 2) (d := 41) (v := .slice (some ⟨wo.heap.size, 0, none⟩) 0 0) hI rfl rfl (by kernel_rfl) (Nat.lt_of_le_of_lt (by decide) hsz) (wanted_free rfl) (by simp [go_sem]; try rfl) (fun a' hI' n41' hk => ⟨by rw [hwe]; exact hS1, ?_⟩))
        replace n39 := hk _ _ n39 rfl
        replace n42 := hk _ _ n42 rfl
        replace n44 := hk _ _ n44 rfl
        replace n47 := hk _ _ n47 rfl
        replace n46 := hk _ _ n46 rfl
        replace n13 := hk _ _ n13 rfl
        have n41 := n41'
        replace hI := hI'
        clear hk hI' n41'
        obtain ⟨act9, rfl⟩ : ∃ x, x = a' := ⟨_, rfl⟩
        rw [hwe]
        refine Rest.same (d' := [0, 3, 5, 8, 2, 7, 11]) ?_ (by kernel_rfl)
        rw [← hR]
        exact st0x2x7x11 wo.heap.size en xh _ _ hI n39 n42 n41 n44 n47 n46 n13 hT1 hS1 hq1
      · have hn1 := below_new wo (planB noPlan)
        have hT1 := hT.newG hq.size
        have hS1 : (wo.alloc (planB noPlan)).heap[w.heap.size]? = some (planB p) ∧ (wo.alloc (planB noPlan)).heap[w.heap.size + 1]? = some (wheelsB a n c) := (And.intro (heap_lft hS.1 hn1) (heap_lft hS.2 hn1))
        have hq1 := below_thn hq hn1
        obtain ⟨nw, hwe⟩ : ∃ y, wo.alloc (planB noPlan) = y := ⟨_, rfl⟩
        rw [hwe] at hn1 hT1 hS1 hq1
        refine _root_.id (op_value (k := 10) (d := 11) (v := .pointer (some ⟨wo.heap.size, 0, none⟩)) hI rfl rfl (by kernel_rfl) (Nat.lt_of_le_of_lt (by decide) hsz) (wanted_free rfl) (by simp [go_sem]; try rfl) (fun a' hI' n11' hk => ⟨by rw [show _ = nw from hwe]; exact hS1, ?_⟩))
        replace n39 := hk _ _ n39 rfl
        replace n42 := hk _ _ n42 rfl
        replace n44 := hk _ _ n44 rfl
        replace n47 := hk _ _ n47 rfl
        replace n46 := hk _ _ n46 rfl
        replace n13 := hk _ _ n13 rfl
        have n11 := n11'
        replace hI := hI'
        clear hk hI' n11'
        obtain ⟨act9, rfl⟩ : ∃ x, x = a' := ⟨_, rfl⟩
        rw [show World.alloc wo _ = nw from hwe]
        refine Rest.same (d' := [0, 3, 5, 8, 7, 10, 11]) ?_ (by kernel_rfl)
        rw [← hR]
        exact st0x7x10x11 en wo.heap.size xh _ _ hI n39 n42 n44 n47 n46 n11 n13 hT1 hS1 hq1
    have st0x10x11 : ∀ (xg : Nat) (xh : Nat) (ac : Act) (wo : World), Kept (11 :: 12 :: 13 :: 14 :: List.range' 39 10) a0 ac → At ac 39 (.agg #[.int .i64 p.fr, .slice p.ta p.tn p.tc, .int .i64 p.sd, .int .i64 p.ck, .slice p.aa p.an p.ac, .slice p.sa p.sn p.sc, .int .i64 p.bu]) → At ac 42 (.slice wa m wk) → At ac 44 (.agg #[.slice a n c]) → At ac 47 (.slice la ln lc) → At ac 11 (.pointer (some ⟨xg, 0, none⟩)) → At ac 13 (.pointer (some ⟨xh, 0, none⟩)) → LSt W2.heap.size wo ⟨p, T, A, S, m, X, n, F, ln, L⟩ none none none none (some xg) (some xh) → (wo.heap[w.heap.size]? = some (planB p) ∧ wo.heap[w.heap.size + 1]? = some (wheelsB a n c)) → Below W2.heap.size W2 wo → R 10 [0, 3, 5, 8, 10, 11] ac wo := by
      clear st4x2x7x10x11 st3x2x7x10x11 st4x2x7x10 st4x2x7x11 st2x2x7x10x11 st3x2x7x10 st3x2x7x11 st3x2x10x11 st4x2x7 st1x2x7x10x11 st2x2x7x10 st2x2x7x11 st2x2x10x11 st3x2x7 st3x2x10 st3x2x11 st0x2x7x10x11 st1x2x7x10 st1x2x7x11 st1x2x10x11 st1x7x10x11 st2x2x7 st2x2x10 st2x2x11 st3x2 st0x2x7x10 st0x2x7x11 st1x2x7 st1x2x10 st1x7x10 st1x2x11 st1x7x11 st2x2 st0x2x7 st0x2x10 st0x7x10 st0x2x11 st0x7x11
      intro xg xh ac wo hI n39 n42 n44 n47 n11 n13 hT hS hq
      rw [hR]
      refine rest_split [1, 2, 7] (by kernel_rfl) rfl (fun i9 hi9 => ?_)
      have hi9' : i9 = 1 ∨ i9 = 2 ∨ i9 = 7 := by simpa using hi9
      clear hi9
      rcases hi9' with rfl | rfl | rfl
      · refine _root_.id (op_call (k := 1) (d := 40) (R := fun v w' => ∃ a1 k1 a2 k2 a3 k3, v = .agg #[.int .i64 p.fr, .slice a1 p.tn k1, .int .i64 p.sd, .int .i64 p.ck, .slice a2 p.an k2, .slice a3 p.sn k3, .int .i64 p.bu] ∧ OwnPlan w' wo.heap.size (p.moved a1 k1 a2 k2 a3 k3) T A S ∧ Below wo.heap.size wo w') hI rfl rfl (by kernel_rfl) (Nat.lt_of_le_of_lt (by decide) hsz) (wanted_free rfl) ((twin_any p T A S (by have := HN.out; omega) (by have := HN.out; omega) (by have := HN.out; omega) _ (HP2.out.below hq)).mono fun e w' g => by obtain ⟨a1, k1, a2, k2, a3, k3, h1, h2, h3⟩ := g; exact ⟨_, h1, a1, k1, a2, k2, a3, k3, rfl, h2, h3⟩) (by have e39 := n39; have f39 := n39.eval; unfold At at e39; simp [go_sem, e39]) ?_)
        intro v w' a' hR' hI' n40' hk
        obtain ⟨a1, k1, a2, k2, a3, k3, rfl, h1, hb⟩ := hR'
        have hT1 := hT.setC hb hq.size h1
        refine ⟨(And.intro (heap_lft hS.1 hb) (heap_lft hS.2 hb)), ?_⟩
        replace n39 := hk _ _ n39 rfl
        replace n42 := hk _ _ n42 rfl
        replace n44 := hk _ _ n44 rfl
        replace n47 := hk _ _ n47 rfl
        replace n11 := hk _ _ n11 rfl
        replace n13 := hk _ _ n13 rfl
        have n40 := n40'
        replace hI := hI'
        clear hk hI' n40'
        obtain ⟨act9, rfl⟩ : ∃ x, x = a' := ⟨_, rfl⟩
        have hS1 := (And.intro (heap_lft hS.1 hb) (heap_lft hS.2 hb))
        have hq1 := below_thn hq hb
        refine Rest.same (d' := [0, 3, 5, 8, 10, 11, 1]) ?_ (by kernel_rfl)
        rw [← hR]
        exact st1x10x11 a1 k1 a2 k2 a3 k3 xg xh _ _ hI n40 n42 n44 n47 n11 n13 hT1 hS1 hq1
      · have hn1 := below_new wo (.cells #[] 3)
        have hT1 := hT.newB hq.size
        have hS1 : (wo.alloc (.cells #[] 3)).heap[w.heap.size]? = some (planB p) ∧ (wo.alloc (.cells #[] 3)).heap[w.heap.size + 1]? = some (wheelsB a n c) := (And.intro (heap_lft hS.1 hn1) (heap_lft hS.2 hn1))
        have hq1 := below_thn hq hn1
        obtain ⟨nw, hwe⟩ : ∃ y, wo.alloc (.cells #[] 3) = y := ⟨_, rfl⟩
        rw [hwe] at hn1 hT1 hS1 hq1
        refine _root_.id (op_value (k := 2) (d := 41) (v := .slice (some ⟨wo.heap.size, 0, none⟩) 0 0) hI rfl rfl (by kernel_rfl) (Nat.lt_of_le_of_lt (by decide) hsz) (wanted_free rfl) (by simp [go_sem]; try rfl) (fun a' hI' n41' hk => ⟨by rw [hwe]; exact hS1, ?_⟩))
        replace n39 := hk _ _ n39 rfl
        replace n42 := hk _ _ n42 rfl
        replace n44 := hk _ _ n44 rfl
        replace n47 := hk _ _ n47 rfl
        replace n11 := hk _ _ n11 rfl
        replace n13 := hk _ _ n13 rfl
        have n41 := n41'
        replace hI := hI'
        clear hk hI' n41'
        obtain ⟨act9, rfl⟩ : ∃ x, x = a' := ⟨_, rfl⟩
        rw [hwe]
        refine Rest.same (d' := [0, 3, 5, 8, 2, 10, 11]) ?_ (by kernel_rfl)
        rw [← hR]
        exact st0x2x10x11 wo.heap.size xg xh _ _ hI n39 n42 n41 n44 n47 n11 n13 hT1 hS1 hq1
      · have hn1 := below_new wo (.cells #[] 63)
        have hT1 := hT.newE hq.size
        have hS1 : (wo.alloc (.cells #[] 63)).heap[w.heap.size]? = some (planB p) ∧ (wo.alloc (.cells #[] 63)).heap[w.heap.size + 1]? = some (wheelsB a n c) := (And.intro (heap_lft hS.1 hn1) (heap_lft hS.2 hn1))
        have hq1 := below_thn hq hn1
        obtain ⟨nw, hwe⟩ : ∃ y, wo.alloc (.cells #[] 63) = y := ⟨_, rfl⟩
        rw [hwe] at hn1 hT1 hS1 hq1
        refine _root_.id (op_value (k := 7) (d := 46) (v := .slice (some ⟨wo.heap.size, 0, none⟩) 0 0) hI rfl rfl (by kernel_rfl) (Nat.lt_of_le_of_lt (by decide) hsz) (wanted_free rfl) (by simp [go_sem]; try rfl) (fun a' hI' n46' hk => ⟨by rw [hwe]; exact hS1, ?_⟩))
        replace n39 := hk _ _ n39 rfl
        replace n42 := hk _ _ n42 rfl
        replace n44 := hk _ _ n44 rfl
        replace n47 := hk _ _ n47 rfl
        replace n11 := hk _ _ n11 rfl
        replace n13 := hk _ _ n13 rfl
        have n46 := n46'
        replace hI := hI'
        clear hk hI' n46'
        obtain ⟨act9, rfl⟩ : ∃ x, x = a' := ⟨_, rfl⟩
        rw [hwe]
        refine Rest.same (d' := [0, 3, 5, 8, 7, 10, 11]) ?_ (by kernel_rfl)
        rw [← hR]
        exact st0x7x10x11 wo.heap.size xg xh _ _ hI n39 n42 n44 n47 n46 n11 n13 hT1 hS1 hq1
    have st1x2 : ∀ (a1 : Option Addr) (k1 : Nat) (a2 : Option Addr) (k2 : Nat) (a3 : Option Addr) (k3 : Nat) (bn : Nat) (ac : Act) (wo : World), Kept (11 :: 12 :: 13 :: 14 :: List.range' 39 10) a0 ac → At ac 40 (.agg #[.int .i64 p.fr, .slice a1 p.tn k1, .int .i64 p.sd, .int .i64 p.ck, .slice a2 p.an k2, .slice a3 p.sn k3, .int .i64 p.bu]) → At ac 42 (.slice wa m wk) → At ac 41 (.slice (some ⟨bn, 0, none⟩) 0 0) → At ac 44 (.agg #[.slice a n c]) → At ac 47 (.slice la ln lc) → LSt W2.heap.size wo ⟨p, T, A, S, m, X, n, F, ln, L⟩ (some (a1, k1, a2, k2, a3, k3)) (some (some ⟨bn, 0, none⟩, 0, 0)) none none none none → (wo.heap[w.heap.size]? = some (planB p) ∧ wo.heap[w.heap.size + 1]? = some (wheelsB a n c)) → Below W2.heap.size W2 wo → R 10 [0, 3, 5, 8, 2, 1] ac wo := by
      clear st4x2x7x10x11 st3x2x7x10x11 st4x2x7x10 st4x2x7x11 st2x2x7x10x11 st3x2x7x10 st3x2x7x11 st3x2x10x11 st4x2x7 st1x2x7x10x11 st2x2x7x10 st2x2x7x11 st2x2x10x11 st3x2x7 st3x2x10 st3x2x11 st0x2x7x10x11 st1x2x7x10 st1x2x7x11 st1x2x10x11 st1x7x10x11 st2x2x7 st2x2x10 st2x2x11 st3x2 st0x2x7x10 st0x2x7x11 st0x2x10x11 st0x7x10x11 st1x7x10 st1x7x11 st1x10x11 st0x2x7 st0x2x10 st0x7x10 st0x2x11 st0x7x11 st0x10x11
      intro a1 k1 a2 k2 a3 k3 bn ac wo hI n40 n42 n41 n44 n47 hT hS hq
      rw [hR]
      refine rest_split [4, 7, 10, 11] (by kernel_rfl) rfl (fun i9 hi9 => ?_)
      have hi9' : i9 = 4 ∨ i9 = 7 ∨ i9 = 10 ∨ i9 = 11 := by simpa using hi9
      clear hi9
      rcases hi9' with rfl | rfl | rfl | rfl
      · obtain ⟨bb, bk, nw, hr, hT1, hb1⟩ := hT.appB (HXX2.out.below hq) HG0.out.2.1 HM.out hq.size 22
        have hq1 := hq.trans hb1
        have hS1 : nw.heap[w.heap.size]? = some (planB p) ∧ nw.heap[w.heap.size + 1]? = some (wheelsB a n c) := ⟨heap_lft HX2.out hq1, heap_lft HY2.out hq1⟩
        refine _root_.id (op_value (k := 4) (d := 43) (v := .slice bb m bk) hI rfl rfl (by kernel_rfl) (Nat.lt_of_le_of_lt (by decide) hsz) (wanted_free rfl) (exec_append (.tmp 41) (.tmp 42) 22 22 rfl n41.eval n42.eval (hr)) (fun a' hI' n43' hk => ⟨hS1, ?_⟩))
        replace n40 := hk _ _ n40 rfl
        replace n42 := hk _ _ n42 rfl
        replace n41 := hk _ _ n41 rfl
        replace n44 := hk _ _ n44 rfl
        replace n47 := hk _ _ n47 rfl
        have n43 := n43'
        replace hI := hI'
        clear hk hI' n43'
        obtain ⟨act9, rfl⟩ : ∃ x, x = a' := ⟨_, rfl⟩
        refine Rest.same (d' := [0, 3, 5, 8, 2, 1, 4]) ?_ (by kernel_rfl)
        rw [← hR]
        exact st2x2 a1 k1 a2 k2 a3 k3 bb bk _ _ hI n40 n43 n44 n47 hT1 hS1 hq1
      · have hn1 := below_new wo (.cells #[] 63)
        have hT1 := hT.newE hq.size
        have hS1 : (wo.alloc (.cells #[] 63)).heap[w.heap.size]? = some (planB p) ∧ (wo.alloc (.cells #[] 63)).heap[w.heap.size + 1]? = some (wheelsB a n c) := (And.intro (heap_lft hS.1 hn1) (heap_lft hS.2 hn1))
        have hq1 := below_thn hq hn1
        obtain ⟨nw, hwe⟩ : ∃ y, wo.alloc (.cells #[] 63) = y := ⟨_, rfl⟩
        rw [hwe] at hn1 hT1 hS1 hq1
        refine _root_.id (op_value (k := 7) (d := 46) (v := .slice (some ⟨wo.heap.size, 0, none⟩) 0 0) hI rfl rfl (by kernel_rfl) (Nat.lt_of_le_of_lt (by decide) hsz) (wanted_free rfl) (by simp [go_sem]; try rfl) (fun a' hI' n46' hk => ⟨by rw [hwe]; exact hS1, ?_⟩))
        replace n40 := hk _ _ n40 rfl
        replace n42 := hk _ _ n42 rfl
        replace n41 := hk _ _ n41 rfl
        replace n44 := hk _ _ n44 rfl
        replace n47 := hk _ _ n47 rfl
        have n46 := n46'
        replace hI := hI'
        clear hk hI' n46'
        obtain ⟨act9, rfl⟩ : ∃ x, x = a' := ⟨_, rfl⟩
        rw [hwe]
        refine Rest.same (d' := [0, 3, 5, 8, 2, 7, 1]) ?_ (by kernel_rfl)
        rw [← hR]
        exact st1x2x7 a1 k1 a2 k2 a3 k3 bn wo.heap.size _ _ hI n40 n42 n41 n44 n47 n46 hT1 hS1 hq1
      · have hn1 := below_new wo (planB noPlan)
        have hT1 := hT.newG hq.size
        have hS1 : (wo.alloc (planB noPlan)).heap[w.heap.size]? = some (planB p) ∧ (wo.alloc (planB noPlan)).heap[w.heap.size + 1]? = some (wheelsB a n c) := (And.intro (heap_lft hS.1 hn1) (heap_lft hS.2 hn1))
        have hq1 := below_thn hq hn1
        obtain ⟨nw, hwe⟩ : ∃ y, wo.alloc (planB noPlan) = y := ⟨_, rfl⟩
        rw [hwe] at hn1 hT1 hS1 hq1
        refine _root_.id (op_value (k := 10) (d := 11) (v := .pointer (some ⟨wo.heap.size, 0, none⟩)) hI rfl rfl (by kernel_rfl) (Nat.lt_of_le_of_lt (by decide) hsz) (wanted_free rfl) (by simp [go_sem]; try rfl) (fun a' hI' n11' hk => ⟨by rw [show _ = nw from hwe]; exact hS1, ?_⟩))
        replace n40 := hk _ _ n40 rfl
        replace n42 := hk _ _ n42 rfl
        replace n41 := hk _ _ n41 rfl
        replace n44 := hk _ _ n44 rfl
        replace n47 := hk _ _ n47 rfl
        have n11 := n11'
        replace hI := hI'
        clear hk hI' n11'
        obtain ⟨act9, rfl⟩ : ∃ x, x = a' := ⟨_, rfl⟩
        rw [show World.alloc wo _ = nw from hwe]
        refine Rest.same (d' := [0, 3, 5, 8, 2, 10, 1]) ?_ (by kernel_rfl)
        rw [← hR]
        exact st1x2x10 a1 k1 a2 k2 a3 k3 bn wo.heap.size _ _ hI n40 n42 n41 n44 n47 n11 hT1 hS1 hq1
      · have hn1 := below_new wo (wheelsB none 0 0)
        have hT1 := hT.newH hq.size
        have hS1 : (wo.alloc (wheelsB none 0 0)).heap[w.heap.size]? = some (planB p) ∧ (wo.alloc (wheelsB none 0 0)).heap[w.heap.size + 1]? = some (wheelsB a n c) := (And.intro (heap_lft hS.1 hn1) (heap_lft hS.2 hn1))
        have hq1 := below_thn hq hn1
        obtain ⟨nw, hwe⟩ : ∃ y, wo.alloc (wheelsB none 0 0) = y := ⟨_, rfl⟩
        rw [hwe] at hn1 hT1 hS1 hq1
        refine _root_.id (op_value (k := 11) (d := 13) (v := .pointer (some ⟨wo.heap.size, 0, none⟩)) hI rfl rfl (by kernel_rfl) (Nat.lt_of_le_of_lt (by decide) hsz) (wanted_free rfl) (by simp [go_sem]; try rfl) (fun a' hI' n13' hk => ⟨by rw [show _ = nw from hwe]; exact hS1, ?_⟩))
        replace n40 := hk _ _ n40 rfl
        replace n42 := hk _ _ n42 rfl
        replace n41 := hk _ _ n41 rfl
        replace n44 := hk _ _ n44 rfl
        replace n47 := hk _ _ n47 rfl
        have n13 := n13'
        replace hI := hI'
        clear hk hI' n13'
        obtain ⟨act9, rfl⟩ : ∃ x, x = a' := ⟨_, rfl⟩
        rw [show World.alloc wo _ = nw from hwe]
        refine Rest.same (d' := [0, 3, 5, 8, 2, 11, 1]) ?_ (by kernel_rfl)
        rw [← hR]
        exact st1x2x11 a1 k1 a2 k2 a3 k3 bn wo.heap.size _ _ hI n40 n42 n41 n44 n47 n13 hT1 hS1 hq1
    have st1x7 : ∀ (a1 : Option Addr) (k1 : Nat) (a2 : Option Addr) (k2 : Nat) (a3 : Option Addr) (k3 : Nat) (en : Nat) (ac : Act) (wo : World), Kept (11 :: 12 :: 13 :: 14 :: List.range' 39 10) a0 ac → At ac 40 (.agg #[.int .i64 p.fr, .slice a1 p.tn k1, .int .i64 p.sd, .int .i64 p.ck, .slice a2 p.an k2, .slice a3 p.sn k3, .int .i64 p.bu]) → At ac 42 (.slice wa m wk) → At ac 44 (.agg #[.slice a n c]) → At ac 47 (.slice la ln lc) → At ac 46 (.slice (some ⟨en, 0, none⟩) 0 0) → LSt W2.heap.size wo ⟨p, T, A, S, m, X, n, F, ln, L⟩ (some (a1, k1, a2, k2, a3, k3)) none none (some (some ⟨en, 0, none⟩, 0, 0)) none none → (wo.heap[w.heap.size]? = some (planB p) ∧ wo.heap[w.heap.size + 1]? = some (wheelsB a n c)) → Below W2.heap.size W2 wo → R 10 [0, 3, 5, 8, 7, 1] ac wo := by
      clear st4x2x7x10x11 st3x2x7x10x11 st4x2x7x10 st4x2x7x11 st2x2x7x10x11 st3x2x7x10 st3x2x7x11 st3x2x10x11 st4x2x7 st1x2x7x10x11 st2x2x7x10 st2x2x7x11 st2x2x10x11 st3x2x7 st3x2x10 st3x2x11 st0x2x7x10x11 st1x2x7x10 st1x2x7x11 st1x2x10x11 st1x7x10x11 st2x2x7 st2x2x10 st2x2x11 st3x2 st0x2x7x10 st0x2x7x11 st0x2x10x11 st0x7x10x11 st1x2x10 st1x2x11 st1x10x11 st2x2 st0x2x7 st0x2x10 st0x7x10 st0x2x11 st0x7x11 st0x10x11 st1x2
      intro a1 k1 a2 k2 a3 k3 en ac wo hI n40 n42 n44 n47 n46 hT hS hq
      rw [hR]
      refine rest_split [2, 10, 11] (by kernel_rfl) rfl (fun i9 hi9 => ?_)
      have hi9' : i9 = 2 ∨ i9 = 10 ∨ i9 = 11 := by simpa using hi9
      clear hi9
      rcases hi9' with rfl | rfl | rfl
      · have hn1 := below_new wo (.cells #[] 3)
        have hT1 := hT.newB hq.size
        have hS1 : (wo.alloc (.cells #[] 3)).heap[w.heap.size]? = some (planB p) ∧ (wo.alloc (.cells #[] 3)).heap[w.heap.size + 1]? = some (wheelsB a n c) := (And.intro (heap_lft hS.1 hn1) (heap_lft hS.2 hn1))
        have hq1 := below_thn hq hn1
        obtain ⟨nw, hwe⟩ : ∃ y, wo.alloc (.cells #[] 3) = y := ⟨_, rfl⟩
        rw [hwe] at hn1 hT1 hS1 hq1
        refine _root_.id (op_value (k := 2) (d := 41) (v := .slice (some ⟨wo.heap.size, 0, none⟩) 0 0) hI rfl rfl (by kernel_rfl) (Nat.lt_of_le_of_lt (by decide) hsz) (wanted_free rfl) (by simp [go_sem]; try rfl) (fun a' hI' n41' hk => ⟨by rw [hwe]; exact hS1, ?_⟩))
        replace n40 := hk _ _ n40 rfl
        replace n42 := hk _ _ n42 rfl
        replace n44 := hk _ _ n44 rfl
        replace n47 := hk _ _ n47 rfl
        replace n46 := hk _ _ n46 rfl
        have n41 := n41'
        replace hI := hI'
        clear hk hI' n41'
        obtain ⟨act9, rfl⟩ : ∃ x, x = a' := ⟨_, rfl⟩
        rw [hwe]
        refine Rest.same (d' := [0, 3, 5, 8, 2, 7, 1]) ?_ (by kernel_rfl)
        rw [← hR]
        exact st1x2x7 a1 k1 a2 k2 a3 k3 wo.heap.size en _ _ hI n40 n42 n41 n44 n47 n46 hT1 hS1 hq1
      · have hn1 := below_new wo (planB noPlan)
        have hT1 := hT.newG hq.size
        have hS1 : (wo.alloc (planB noPlan)).heap[w.heap.size]? = some (planB p) ∧ (wo.alloc (planB noPlan)).heap[w.heap.size + 1]? = some (wheelsB a n c) := (And.intro (heap_lft hS.1 hn1) (heap_lft hS.2 hn1))
        have hq1 := below_thn hq hn1
        obtain ⟨nw, hwe⟩ : ∃ y, wo.alloc (planB noPlan) = y := ⟨_, rfl⟩
        rw [hwe] at hn1 hT1 hS1 hq1
        refine _root_.id (op_value (k := 10) (d := 11) (v := .pointer (some ⟨wo.heap.size, 0, none⟩)) hI rfl rfl (by kernel_rfl) (Nat.lt_of_le_of_lt (by decide) hsz) (wanted_free rfl) (by simp [go_sem]; try rfl) (fun a' hI' n11' hk => ⟨by rw [show _ = nw from hwe]; exact hS1, ?_⟩))
        replace n40 := hk _ _ n40 rfl
        replace n42 := hk _ _ n42 rfl
        replace n44 := hk _ _ n44 rfl
        replace n47 := hk _ _ n47 rfl
        replace n46 := hk _ _ n46 rfl
        have n11 := n11'
        replace hI := hI'
        clear hk hI' n11'
        obtain ⟨act9, rfl⟩ : ∃ x, x = a' := ⟨_, rfl⟩
        rw [show World.alloc wo _ = nw from hwe]
        refine Rest.same (d' := [0, 3, 5, 8, 7, 10, 1]) ?_ (by kernel_rfl)
        rw [← hR]
        exact st1x7x10 a1 k1 a2 k2 a3 k3 en wo.heap.size _ _ hI n40 n42 n44 n47 n46 n11 hT1 hS1 hq1
      · have hn1 := below_new wo (wheelsB none 0 0)
        have hT1 := hT.newH hq.size
        have hS1 : (wo.alloc (wheelsB none 0 0)).heap[w.heap.size]? = some (planB p) ∧ (wo.alloc (wheelsB none 0 0)).heap[w.heap.size + 1]? = some (wheelsB a n c) := (And.intro (heap_lft hS.1 hn1) (heap_lft hS.2 hn1))
        have hq1 := below_thn hq hn1
        obtain ⟨nw, hwe⟩ : ∃ y, wo.alloc (wheelsB none 0 0) = y := ⟨_, rfl⟩
        rw [hwe] at hn1 hT1 hS1 hq1
        refine _root_.id (op_value (k := 11) (d := 13) (v := .pointer (some ⟨wo.heap.size, 0, none⟩)) hI rfl rfl (by kernel_rfl) (Nat.lt_of_le_of_lt (by decide) hsz) (wanted_free rfl) (by simp [go_sem]; try rfl) (fun a' hI' n13' hk => ⟨by rw [show _ = nw from hwe]; exact hS1, ?_⟩))
        replace n40 := hk _ _ n40 rfl
        replace n42 := hk _ _ n42 rfl
        replace n44 := hk _ _ n44 rfl
        replace n47 := hk _ _ n47 rfl
        replace n46 := hk _ _ n46 rfl
        have n13 := n13'
        replace hI := hI'
        clear hk hI' n13'
        obtain ⟨act9, rfl⟩ : ∃ x, x = a' := ⟨_, rfl⟩
        rw [show World.alloc wo _ = nw from hwe]
        refine Rest.same (d' := [0, 3, 5, 8, 7, 11, 1]) ?_ (by kernel_rfl)
        rw [← hR]
        exact st1x7x11 a1 k1 a2 k2 a3 k3 en wo.heap.size _ _ hI n40 n42 n44 n47 n46 n13 hT1 hS1 hq1
    have st1x10 : ∀ (a1 : Option Addr) (k1 : Nat) (a2 : Option Addr) (k2 : Nat) (a3 : Option Addr) (k3 : Nat) (xg : Nat) (ac : Act) (wo : World), Kept (11 :: 12 :: 13 :: 14 :: List.range' 39 10) a0 ac → At ac 40 (.agg #[.int .i64 p.fr, .slice a1 p.tn k1, .int .i64 p.sd, .int .i64 p.ck, .slice a2 p.an k2, .slice a3 p.sn k3, .int .i64 p.bu]) → At ac 42 (.slice wa m wk) → At ac 44 (.agg #[.slice a n c]) → At ac 47 (.slice la ln lc) → At ac 11 (.pointer (some ⟨xg, 0, none⟩)) → LSt W2.heap.size wo ⟨p, T, A, S, m, X, n, F, ln, L⟩ (some (a1, k1, a2, k2, a3, k3)) none none none (some xg) none → (wo.heap[w.heap.size]? = some (planB p) ∧ wo.heap[w.heap.size + 1]? = some (wheelsB a n c)) → Below W2.heap.size W2 wo → R 10 [0, 3, 5, 8, 10, 1] ac wo := by
      clear st4x2x7x10x11 st3x2x7x10x11 st4x2x7x10 st4x2x7x11 st2x2x7x10x11 st3x2x7x10 st3x2x7x11 st3x2x10x11 st4x2x7 st1x2x7x10x11 st2x2x7x10 st2x2x7x11 st2x2x10x11 st3x2x7 st3x2x10 st3x2x11 st0x2x7x10x11 st1x2x7x10 st1x2x7x11 st1x2x10x11 st1x7x10x11 st2x2x7 st2x2x10 st2x2x11 st3x2 st0x2x7x10 st0x2x7x11 st0x2x10x11 st0x7x10x11 st1x2x7 st1x2x11 st1x7x11 st2x2 st0x2x7 st0x2x10 st0x7x10 st0x2x11 st0x7x11 st0x10x11 st1x2 st1x7
      intro a1 k1 a2 k2 a3 k3 xg ac wo hI n40 n42 n44 n47 n11 hT hS hq
      rw [hR]
      refine rest_split [2, 7, 11] (by kernel_rfl) rfl (fun i9 hi9 => ?_)
      have hi9' : i9 = 2 ∨ i9 = 7 ∨ i9 = 11 := by simpa using hi9
      clear hi9
      rcases hi9' with rfl | rfl | rfl
      · have hn1 := below_new wo (.cells #[] 3)
        have hT1 := hT.newB hq.size
        have hS1 : (wo.alloc (.cells #[] 3)).heap[w.heap.size]? = some (planB p) ∧ (wo.alloc (.cells #[] 3)).heap[w.heap.size + 1]? = some (wheelsB a n c) := (And.intro (heap_lft hS.1 hn1) (heap_lft hS.2 hn1))
        have hq1 := below_thn hq hn1
        obtain ⟨nw, hwe⟩ : ∃ y, wo.alloc (.cells #[] 3) = y := ⟨_, rfl⟩
        rw [hwe] at hn1 hT1 hS1 hq1
        refine _root_.id (op_value (k := 2) (d := 41) (v := .slice (some ⟨wo.heap.size, 0, none⟩) 0 0) hI rfl rfl (by kernel_rfl) (Nat.lt_of_le_of_lt (by decide) hsz) (wanted_free rfl) (by simp [go_sem]; try rfl) (fun a' hI' n41' hk => ⟨by rw [hwe]; exact hS1, ?_⟩))
        replace n40 := hk _ _ n40 rfl
        replace n42 := hk _ _ n42 rfl
        replace n44 := hk _ _ n44 rfl
        replace n47 := hk _ _ n47 rfl
        replace n11 := hk _ _ n11 rfl
        have n41 := n41'
        replace hI := hI'
        clear hk hI' n41'
        obtain ⟨act9, rfl⟩ : ∃ x, x = a' := ⟨_, rfl⟩
        rw [hwe]
        refine Rest.same (d' := [0, 3, 5, 8, 2, 10, 1]) ?_ (by kernel_rfl)
        rw [← hR]
        exact st1x2x10 a1 k1 a2 k2 a3 k3 wo.heap.size xg _ _ hI n40 n42 n41 n44 n47 n11 hT1 hS1 hq1
      · have hn1 := below_new wo (.cells #[] 63)
        have hT1 := hT.newE hq.size
        have hS1 : (wo.alloc (.cells #[] 63)).heap[w.heap.size]? = some (planB p) ∧ (wo.alloc (.cells #[] 63)).heap[w.heap.size + 1]? = some (wheelsB a n c) := (And.intro (heap_lft hS.1 hn1) (heap_lft hS.2 hn1))
        have hq1 := below_thn hq hn1
        obtain ⟨nw, hwe⟩ : ∃ y, wo.alloc (.cells #[] 63) = y := ⟨_, rfl⟩
        rw [hwe] at hn1 hT1 hS1 hq1
        refine _root_.id (op_value (k := 7) (d := 46) (v := .slice (some ⟨wo.heap.size, 0, none⟩) 0 0) hI rfl rfl (by kernel_rfl) (Nat.lt_of_le_of_lt (by decide) hsz) (wanted_free rfl) (by simp [go_sem]; try rfl) (fun a' hI' n46' hk => ⟨by rw [hwe]; exact hS1, ?_⟩))
        replace n40 := hk _ _ n40 rfl
        replace n42 := hk _ _ n42 rfl
        replace n44 := hk _ _ n44 rfl
        replace n47 := hk _ _ n47 rfl
        replace n11 := hk _ _ n11 rfl
        have n46 := n46'
        replace hI := hI'
        clear hk hI' n46'
        obtain ⟨act9, rfl⟩ : ∃ x, x = a' := ⟨_, rfl⟩
        rw [hwe]
        refine Rest.same (d' := [0, 3, 5, 8, 7, 10, 1]) ?_ (by kernel_rfl)
        rw [← hR]
        exact st1x7x10 a1 k1 a2 k2 a3 k3 wo.heap.size xg _ _ hI n40 n42 n44 n47 n46 n11 hT1 hS1 hq1
      · have hn1 := below_new wo (wheelsB none 0 0)
        have hT1 := hT.newH hq.size
        have hS1 : (wo.alloc (wheelsB none 0 0)).heap[w.heap.size]? = some (planB p) ∧ (wo.alloc (wheelsB none 0 0)).heap[w.heap.size + 1]? = some (wheelsB a n c) := (And.intro (heap_lft hS.1 hn1) (heap_lft hS.2 hn1))
        have hq1 := below_thn hq hn1
        obtain ⟨nw, hwe⟩ : ∃ y, wo.alloc (wheelsB none 0 0) = y := ⟨_, rfl⟩
        rw [hwe] at hn1 hT1 hS1 hq1
        refine _root_.id (op_value (k := 11) (d := 13) (v := .pointer (some ⟨wo.heap.size, 0, none⟩)) hI rfl rfl (by kernel_rfl) (Nat.lt_of_le_of_lt (by decide) hsz) (wanted_free rfl) (by simp [go_sem]; try rfl) (fun a' hI' n13' hk => ⟨by rw [show _ = nw from hwe]; exact hS1, ?_⟩))
        replace n40 := hk _ _ n40 rfl
        replace n42 := hk _ _ n42 rfl
        replace n44 := hk _ _ n44 rfl
        replace n47 := hk _ _ n47 rfl
        replace n11 := hk _ _ n11 rfl
        have n13 := n13'
        replace hI := hI'
        clear hk hI' n13'
        obtain ⟨act9, rfl⟩ : ∃ x, x = a' := ⟨_, rfl⟩
        rw [show World.alloc wo _ = nw from hwe]
        refine Rest.same (d' := [0, 3, 5, 8, 10, 11, 1]) ?_ (by kernel_rfl)
        rw [← hR]
        exact st1x10x11 a1 k1 a2 k2 a3 k3 xg wo.heap.size _ _ hI n40 n42 n44 n47 n11 n13 hT1 hS1 hq1
    have st1x11 : ∀ (a1 : Option Addr) (k1 : Nat) (a2 : Option Addr) (k2 : Nat) (a3 : Option Addr) (k3 : Nat) (xh : Nat) (ac : Act) (wo : World), Kept (11 :: 12 :: 13 :: 14 :: List.range' 39 10) a0 ac → At ac 40 (.agg #[.int .i64 p.fr, .slice a1 p.tn k1, .int .i64 p.sd, .int .i64 p.ck, .slice a2 p.an k2, .slice a3 p.sn k3, .int .i64 p.bu]) → At ac 42 (.slice wa m wk) → At ac 44 (.agg #[.slice a n c]) → At ac 47 (.slice la ln lc) → At ac 13 (.pointer (some ⟨xh, 0, none⟩)) → LSt W2.heap.size wo ⟨p, T, A, S, m, X, n, F, ln, L⟩ (some (a1, k1, a2, k2, a3, k3)) none none none none (some xh) → (wo.heap[w.heap.size]? = some (planB p) ∧ wo.heap[w.heap.size + 1]? = some (wheelsB a n c)) → Below W2.heap.size W2 wo → R 10 [0, 3, 5, 8, 11, 1] ac wo := by
      clear st4x2x7x10x11 st3x2x7x10x11 st4x2x7x10 st4x2x7x11 st2x2x7x10x11 st3x2x7x10 st3x2x7x11 st3x2x10x11 st4x2x7 st1x2x7x10x11 st2x2x7x10 st2x2x7x11 st2x2x10x11 st3x2x7 st3x2x10 st3x2x11 st0x2x7x10x11 st1x2x7x10 st1x2x7x11 st1x2x10x11 st1x7x10x11 st2x2x7 st2x2x10 st2x2x11 st3x2 st0x2x7x10 st0x2x7x11 st0x2x10x11 st0x7x10x11 st1x2x7 st1x2x10 st1x7x10 st2x2 st0x2x7 st0x2x10 st0x7x10 st0x2x11 st0x7x11 st0x10x11 st1x2 st1x7 st1x10
      intro a1 k1 a2 k2 a3 k3 xh ac wo hI n40 n42 n44 n47 n13 hT hS hq
      rw [hR]
      refine rest_split [2, 7, 10] (by kernel_rfl) rfl (fun i9 hi9 => ?_)
      have hi9' : i9 = 2 ∨ i9 = 7 ∨ i9 = 10 := by simpa using hi9
      clear hi9
      rcases hi9' with rfl | rfl | rfl
      · have hn1 := below_new wo (.cells #[] 3)
        have hT1 := hT.newB hq.size
        have hS1 : (wo.alloc (.cells #[] 3)).heap[w.heap.size]? = some (planB p) ∧ (wo.alloc (.cells #[] 3)).heap[w.heap.size + 1]? = some (wheelsB a n c) := (And.intro (heap_lft hS.1 hn1) (heap_lft hS.2 hn1))
        have hq1 := below_thn hq hn1
        obtain ⟨nw, hwe⟩ : ∃ y, wo.alloc (.cells #[] 3) = y := ⟨_, rfl⟩
        rw [hwe] at hn1 hT1 hS1 hq1
        refine _root_.id (op_value (k := 2) (d := 41) (v := .slice (some ⟨wo.heap.size, 0, none⟩) 0 0) hI rfl rfl (by kernel_rfl) (Nat.lt_of_le_of_lt (by decide) hsz) (wanted_free rfl) (by simp [go_sem]; try rfl) (fun a' hI' n41' hk => ⟨by rw [hwe]; exact hS1, ?_⟩))
        replace n40 := hk _ _ n40 rfl
        replace n42 := hk _ _ n42 rfl
        replace n44 := hk _ _ n44 rfl
        replace n47 := hk _ _ n47 rfl
        replace n13 := hk _ _ n13 rfl
        have n41 := n41'
        replace hI := hI'
        clear hk hI' n41'
        obtain ⟨act9, rfl⟩ : ∃ x, x = a' := ⟨_, rfl⟩
        rw [hwe]
        refine Rest.same (d' := [0, 3, 5, 8, 2, 11, 1]) ?_ (by kernel_rfl)
        rw [← hR]
        exact st1x2x11 a1 k1 a2 k2 a3 k3 wo.heap.size xh _ _ hI n40 n42 n41 n44 n47 n13 hT1 hS1 hq1
      · have hn1 := below_new wo (.cells #[] 63)
        have hT1 := hT.newE hq.size
        have hS1 : (wo.alloc (.cells #[] 63)).heap[w.heap.size]? = some (planB p) ∧ (wo.alloc (.cells #[] 63)).heap[w.heap.size + 1]? = some (wheelsB a n c) := (And.intro (heap_lft hS.1 hn1) (heap_lft hS.2 hn1))
        have hq1 := below_thn hq hn1
        obtain ⟨nw, hwe⟩ : ∃ y, wo.alloc (.cells #[] 63) = y := ⟨_, rfl⟩
        rw [hwe] at hn1 hT1 hS1 hq1
        refine _root_.id (op_value (k := 7) (d := 46) (v := .slice (some ⟨wo.heap.size, 0, none⟩) 0 0) hI rfl rfl (by kernel_rfl) (Nat.lt_of_le_of_lt (by decide) hsz) (wanted_free rfl) (by simp [go_sem]; try rfl) (fun a' hI' n46' hk => ⟨by rw [hwe]; exact hS1, ?_⟩))
        replace n40 := hk _ _ n40 rfl
        replace n42 := hk _ _ n42 rfl
        replace n44 := hk _ _ n44 rfl
        replace n47 := hk _ _ n47 rfl
        replace n13 := hk _ _ n13 rfl
        have n46 := n46'
        replace hI := hI'
        clear hk hI' n46'
        obtain ⟨act9, rfl⟩ : ∃ x, x = a' := ⟨_, rfl⟩
        rw [hwe]
        refine Rest.same (d' := [0, 3, 5, 8, 7, 11, 1]) ?_ (by kernel_rfl)
        rw [← hR]
        exact st1x7x11 a1 k1 a2 k2 a3 k3 wo.heap.size xh _ _ hI n40 n42 n44 n47 n46 n13 hT1 hS1 hq1
      · have hn1 := below_new wo (planB noPlan)
        have hT1 := hT.newG hq.size
        have hS1 : (wo.alloc (planB noPlan)).heap[w.heap.size]? = some (planB p) ∧ (wo.alloc (planB noPlan)).heap[w.heap.size + 1]? = some (wheelsB a n c) := (And.intro (heap_lft hS.1 hn1) (heap_lft hS.2 hn1))
        have hq1 := below_thn hq hn1
        obtain ⟨nw, hwe⟩ : ∃ y, wo.alloc (planB noPlan) = y := ⟨_, rfl⟩
        rw [hwe] at hn1 hT1 hS1 hq1
        refine _root_.id (op_value (k := 10) (d := 11) (v := .pointer (some ⟨wo.heap.size, 0, none⟩)) hI rfl rfl (by kernel_rfl) (Nat.lt_of_le_of_lt (by decide) hsz) (wanted_free rfl) (by simp [go_sem]; try rfl) (fun a' hI' n11' hk => ⟨by rw [show _ = nw from hwe]; exact hS1, ?_⟩))
        replace n40 := hk _ _ n40 rfl
        replace n42 := hk _ _ n42 rfl
        replace n44 := hk _ _ n44 rfl
        replace n47 := hk _ _ n47 rfl
        replace n13 := hk _ _ n13 rfl
        have n11 := n11'
        replace hI := hI'
        clear hk hI' n11'
        obtain ⟨act9, rfl⟩ : ∃ x, x = a' := ⟨_, rfl⟩
        rw [show World.alloc wo _ = nw from hwe]
        refine Rest.same (d' := [0, 3, 5, 8, 10, 11, 1]) ?_ (by kernel_rfl)
        rw [← hR]
        exact st1x10x11 a1 k1 a2 k2 a3 k3 wo.heap.size xh _ _ hI n40 n42 n44 n47 n11 n13 hT1 hS1 hq1
    have st0x2 : ∀ (bn : Nat) (ac : Act) (wo : World), Kept (11 :: 12 :: 13 :: 14 :: List.range' 39 10) a0 ac → At ac 39 (.agg #[.int .i64 p.fr, .slice p.ta p.tn p.tc, .int .i64 p.sd, .int .i64 p.ck, .slice p.aa p.an p.ac, .slice p.sa p.sn p.sc, .int .i64 p.bu]) → At ac 42 (.slice wa m wk) → At ac 41 (.slice (some ⟨bn, 0, none⟩) 0 0) → At ac 44 (.agg #[.slice a n c]) → At ac 47 (.slice la ln lc) → LSt W2.heap.size wo ⟨p, T, A, S, m, X, n, F, ln, L⟩ none (some (some ⟨bn, 0, none⟩, 0, 0)) none none none none → (wo.heap[w.heap.size]? = some (planB p) ∧ wo.heap[w.heap.size + 1]? = some (wheelsB a n c)) → Below W2.heap.size W2 wo → R 11 [0, 3, 5, 8, 2] ac wo := by
      clear st4x2x7x10x11 st3x2x7x10x11 st4x2x7x10 st4x2x7x11 st2x2x7x10x11 st3x2x7x10 st3x2x7x11 st3x2x10x11 st4x2x7 st1x2x7x10x11 st2x2x7x10 st2x2x7x11 st2x2x10x11 st3x2x7 st3x2x10 st3x2x11 st0x2x7x10x11 st1x2x7x10 st1x2x7x11 st1x2x10x11 st1x7x10x11 st2x2x7 st2x2x10 st2x2x11 st3x2 st0x2x7x10 st0x2x7x11 st0x2x10x11 st0x7x10x11 st1x2x7 st1x2x10 st1x7x10 st1x2x11 st1x7x11 st1x10x11 st2x2 st0x7x10 st0x7x11 st0x10x11 st1x7 st1x10 st1x11
      intro bn ac wo hI n39 n42 n41 n44 n47 hT hS hq
      rw [hR]
      refine rest_split [1, 7, 10, 11] (by kernel_rfl) rfl (fun i9 hi9 => ?_)
      have hi9' : i9 = 1 ∨ i9 = 7 ∨ i9 = 10 ∨ i9 = 11 := by simpa using hi9
      clear hi9
      rcases hi9' with rfl | rfl | rfl | rfl
      · refine _root_.id (op_call (k := 1) (d := 40) (R := fun v w' => ∃ a1 k1 a2 k2 a3 k3, v = .agg #[.int .i64 p.fr, .slice a1 p.tn k1, .int .i64 p.sd, .int .i64 p.ck, .slice a2 p.an k2, .slice a3 p.sn k3, .int .i64 p.bu] ∧ OwnPlan w' wo.heap.size (p.moved a1 k1 a2 k2 a3 k3) T A S ∧ Below wo.heap.size wo w') hI rfl rfl (by kernel_rfl) (Nat.lt_of_le_of_lt (by decide) hsz) (wanted_free rfl) ((twin_any p T A S (by have := HN.out; omega) (by have := HN.out; omega) (by have := HN.out; omega) _ (HP2.out.below hq)).mono fun e w' g => by obtain ⟨a1, k1, a2, k2, a3, k3, h1, h2, h3⟩ := g; exact ⟨_, h1, a1, k1, a2, k2, a3, k3, rfl, h2, h3⟩) (by have e39 := n39; have f39 := n39.eval; unfold At at e39; simp [go_sem, e39]) ?_)
        intro v w' a' hR' hI' n40' hk
        obtain ⟨a1, k1, a2, k2, a3, k3, rfl, h1, hb⟩ := hR'
        have hT1 := hT.setC hb hq.size h1
        refine ⟨(And.intro (heap_lft hS.1 hb) (heap_lft hS.2 hb)), ?_⟩
        replace n39 := hk _ _ n39 rfl
        replace n42 := hk _ _ n42 rfl
        replace n41 := hk _ _ n41 rfl
        replace n44 := hk _ _ n44 rfl
        replace n47 := hk _ _ n47 rfl
        have n40 := n40'
        replace hI := hI'
        clear hk hI' n40'
        obtain ⟨act9, rfl⟩ : ∃ x, x = a' := ⟨_, rfl⟩
        have hS1 := (And.intro (heap_lft hS.1 hb) (heap_lft hS.2 hb))
        have hq1 := below_thn hq hb
        refine Rest.same (d' := [0, 3, 5, 8, 2, 1]) ?_ (by kernel_rfl)
        rw [← hR]
        exact st1x2 a1 k1 a2 k2 a3 k3 bn _ _ hI n40 n42 n41 n44 n47 hT1 hS1 hq1
      · have hn1 := below_new wo (.cells #[] 63)
        have hT1 := hT.newE hq.size
        have hS1 : (wo.alloc (.cells #[] 63)).heap[w.heap.size]? = some (planB p) ∧ (wo.alloc (.cells #[] 63)).heap[w.heap.size + 1]? = some (wheelsB a n c) := (And.intro (heap_lft hS.1 hn1) (heap_lft hS.2 hn1))
        have hq1 := below_thn hq hn1
        obtain ⟨nw, hwe⟩ : ∃ y, wo.alloc (.cells #[] 63) = y := ⟨_, rfl⟩
        rw [hwe] at hn1 hT1 hS1 hq1
        refine _root_.id (op_value (k := 7) (d := 46) (v := .slice (some ⟨wo.heap.size, 0, none⟩) 0 0) hI rfl rfl (by kernel_rfl) (Nat.lt_of_le_of_lt (by decide) hsz) (wanted_free rfl) (by simp [go_sem]; try rfl) (fun a' hI' n46' hk => ⟨by rw [hwe]; exact hS1, ?_⟩))
        replace n39 := hk _ _ n39 rfl
        replace n42 := hk _ _ n42 rfl
        replace n41 := hk _ _ n41 rfl
        replace n44 := hk _ _ n44 rfl
        replace n47 := hk _ _ n47 rfl
        have n46 := n46'
        replace hI := hI'
        clear hk hI' n46'
        obtain ⟨act9, rfl⟩ : ∃ x, x = a' := ⟨_, rfl⟩
        rw [hwe]
        refine Rest.same (d' := [0, 3, 5, 8, 2, 7]) ?_ (by kernel_rfl)
        rw [← hR]
        exact st0x2x7 bn wo.heap.size _ _ hI n39 n42 n41 n44 n47 n46 hT1 hS1 hq1
      · have hn1 := below_new wo (planB noPlan)
        have hT1 := hT.newG hq.size
        have hS1 : (wo.alloc (planB noPlan)).heap[w.heap.size]? = some (planB p) ∧ (wo.alloc (planB noPlan)).heap[w.heap.size + 1]? = some (wheelsB a n c) := (And.intro (heap_lft hS.1 hn1) (heap_lft hS.2 hn1))
        have hq1 := below_thn hq hn1
        obtain ⟨nw, hwe⟩ : ∃ y, wo.alloc (planB noPlan) = y := ⟨_, rfl⟩
        rw [hwe] at hn1 hT1 hS1 hq1
        refine _root_.id (op_value (k := 10) (d := 11) (v := .pointer (some ⟨wo.heap.size, 0, none⟩)) hI rfl rfl (by kernel_rfl) (Nat.lt_of_le_of_lt (by decide) hsz) (wanted_free rfl) (by simp [go_sem]; try rfl) (fun a' hI' n11' hk => ⟨by rw [show _ = nw from hwe]; exact hS1, ?_⟩))
        replace n39 := hk _ _ n39 rfl
        replace n42 := hk _ _ n42 rfl
        replace n41 := hk _ _ n41 rfl
        replace n44 := hk _ _ n44 rfl
        replace n47 := hk _ _ n47 rfl
        have n11 := n11'
        replace hI := hI'
        clear hk hI' n11'
        obtain ⟨act9, rfl⟩ : ∃ x, x = a' := ⟨_, rfl⟩
        rw [show World.alloc wo _ = nw from hwe]
        refine Rest.same (d' := [0, 3, 5, 8, 2, 10]) ?_ (by kernel_rfl)
        rw [← hR]
        exact st0x2x10 bn wo.heap.size _ _ hI n39 n42 n41 n44 n47 n11 hT1 hS1 hq1
      · have hn1 := below_new wo (wheelsB none 0 0)
        have hT1 := hT.newH hq.size
        have hS1 : (wo.alloc (wheelsB none 0 0)).heap[w.heap.size]? = some (planB p) ∧ (wo.alloc (wheelsB none 0 0)).heap[w.heap.size + 1]? = some (wheelsB a n c) := (And.intro (heap_lft hS.1 hn1) (heap_lft hS.2 hn1))
        have hq1 := below_thn hq hn1
        obtain ⟨nw, hwe⟩ : ∃ y, wo.alloc (wheelsB none 0 0) = y := ⟨_, rfl⟩
        rw [hwe] at hn1 hT1 hS1 hq1
        refine _root_.id (op_value (k := 11) (d := 13) (v := .pointer (some ⟨wo.heap.size, 0, none⟩)) hI rfl rfl (by kernel_rfl) (Nat.lt_of_le_of_lt (by decide) hsz) (wanted_free rfl) (by simp [go_sem]; try rfl) (fun a' hI' n13' hk => ⟨by rw [show _ = nw from hwe]; exact hS1, ?_⟩))
        replace n39 := hk _ _ n39 rfl
        replace n42 := hk _ _ n42 rfl
        replace n41 := hk _ _ n41 rfl
        replace n44 := hk _ _ n44 rfl
        replace n47 := hk _ _ n47 rfl
        have n13 := n13'
        replace hI := hI'
        clear hk hI' n13'
        obtain ⟨act9, rfl⟩ : ∃ x, x = a' := ⟨_, rfl⟩
        rw [show World.alloc wo _ = nw from hwe]
        refine Rest.same (d' := [0, 3, 5, 8, 2, 11]) ?_ (by kernel_rfl)
        rw [← hR]
        exact st0x2x11 bn wo.heap.size _ _ hI n39 n42 n41 n44 n47 n13 hT1 hS1 hq1
    have st0x7 : ∀ (en : Nat) (ac : Act) (wo : World), Kept (11 :: 12 :: 13 :: 14 :: List.range' 39 10) a0 ac → At ac 39 (.agg #[.int .i64 p.fr, .slice p.ta p.tn p.tc, .int .i64 p.sd, .int .i64 p.ck, .slice p.aa p.an p.ac, .slice p.sa p.sn p.sc, .int .i64 p.bu]) → At ac 42 (.slice wa m wk) → At ac 44 (.agg #[.slice a n c]) → At ac 47 (.slice la ln lc) → At ac 46 (.slice (some ⟨en, 0, none⟩) 0 0) → LSt W2.heap.size wo ⟨p, T, A, S, m, X, n, F, ln, L⟩ none none none (some (some ⟨en, 0, none⟩, 0, 0)) none none → (wo.heap[w.heap.size]? = some (planB p) ∧ wo.heap[w.heap.size + 1]? = some (wheelsB a n c)) → Below W2.heap.size W2 wo → R 11 [0, 3, 5, 8, 7] ac wo := by
      clear st4x2x7x10x11 st3x2x7x10x11 st4x2x7x10 st4x2x7x11 st2x2x7x10x11 st3x2x7x10 st3x2x7x11 st3x2x10x11 st4x2x7 st1x2x7x10x11 st2x2x7x10 st2x2x7x11 st2x2x10x11 st3x2x7 st3x2x10 st3x2x11 st0x2x7x10x11 st1x2x7x10 st1x2x7x11 st1x2x10x11 st1x7x10x11 st2x2x7 st2x2x10 st2x2x11 st3x2 st0x2x7x10 st0x2x7x11 st0x2x10x11 st0x7x10x11 st1x2x7 st1x2x10 st1x7x10 st1x2x11 st1x7x11 st1x10x11 st2x2 st0x2x10 st0x2x11 st0x10x11 st1x2 st1x10 st1x11 st0x2
      intro en ac wo hI n39 n42 n44 n47 n46 hT hS hq
      rw [hR]
      refine rest_split [1, 2, 10, 11] (by kernel_rfl) rfl (fun i9 hi9 => ?_)
      have hi9' : i9 = 1 ∨ i9 = 2 ∨ i9 = 10 ∨ i9 = 11 := by simpa using hi9
      clear hi9
      rcases hi9' with rfl | rfl | rfl | rfl
      · refine _root_.id (op_call (k := 1) (d := 40) (R := fun v w' => ∃ a1 k1 a2 k2 a3 k3, v = .agg #[.int .i64 p.fr, .slice a1 p.tn k1, .int .i64 p.sd, .int .i64 p.ck, .slice a2 p.an k2, .slice a3 p.sn k3, .int .i64 p.bu] ∧ OwnPlan w' wo.heap.size (p.moved a1 k1 a2 k2 a3 k3) T A S ∧ Below wo.heap.size wo w') hI rfl rfl (by kernel_rfl) (Nat.lt_of_le_of_lt (by decide) hsz) (wanted_free rfl) ((twin_any p T A S (by have := HN.out; omega) (by have := HN.out; omega) (by have := HN.out; omega) _ (HP2.out.below hq)).mono fun e w' g => by obtain ⟨a1, k1, a2, k2, a3, k3, h1, h2, h3⟩ := g; exact ⟨_, h1, a1, k1, a2, k2, a3, k3, rfl, h2, h3⟩) (by have e39 := n39; have f39 := n39.eval; unfold At at e39; simp [go_sem, e39]) ?_)
        intro v w' a' hR' hI' n40' hk
        obtain ⟨a1, k1, a2, k2, a3, k3, rfl, h1, hb⟩ := hR'
        have hT1 := hT.setC hb hq.size h1
        refine ⟨(And.intro (heap_lft hS.1 hb) (heap_lft hS.2 hb)), ?_⟩
        replace n39 := hk _ _ n39 rfl
        replace n42 := hk _ _ n42 rfl
        replace n44 := hk _ _ n44 rfl
        replace n47 := hk _ _ n47 rfl
        replace n46 := hk _ _ n46 rfl
        have n40 := n40'
        replace hI := hI'
        clear hk hI' n40'
        obtain ⟨act9, rfl⟩ : ∃ x, x = a' := ⟨_, rfl⟩
        have hS1 := (And.intro (heap_lft hS.1 hb) (heap_lft hS.2 hb))
        have hq1 := below_thn hq hb
        refine Rest.same (d' := [0, 3, 5, 8, 7, 1]) ?_ (by kernel_rfl)
        rw [← hR]
        exact st1x7 a1 k1 a2 k2 a3 k3 en _ _ hI n40 n42 n44 n47 n46 hT1 hS1 hq1
      · have hn1 := below_new wo (.cells #[] 3)
        have hT1 := hT.newB hq.size
        have hS1 : (wo.alloc (.cells #[] 3)).heap[w.heap.size]? = some (planB p) ∧ (wo.alloc (.cells #[] 3)).heap[w.heap.size + 1]? = some (wheelsB a n c) := (And.intro (heap_lft hS.1 hn1) (heap_lft hS.2 hn1))
        have hq1 := below_thn hq hn1
        obtain ⟨nw, hwe⟩ : ∃ y, wo.alloc (.cells #[] 3) = y := ⟨_, rfl⟩
        rw [hwe] at hn1 hT1 hS1 hq1
        refine _root_.id (op_value (k := 2) (d := 41) (v := .slice (some ⟨wo.heap.size, 0, none⟩) 0 0) hI rfl rfl (by kernel_rfl) (Nat.lt_of_le_of_lt (by decide) hsz) (wanted_free rfl) (by simp [go_sem]; try rfl) (fun a' hI' n41' hk => ⟨by rw [hwe]; exact hS1, ?_⟩))
        replace n39 := hk _ _ n39 rfl
        replace n42 := hk _ _ n42 rfl
        replace n44 := hk _ _ n44 rfl
        replace n47 := hk _ _ n47 rfl
        replace n46 := hk _ _ n46 rfl
        have n41 := n41'
        replace hI := hI'
        clear hk hI' n41'
        obtain ⟨act9, rfl⟩ : ∃ x, x = a' := ⟨_, rfl⟩
        rw [hwe]
        refine Rest.same (d' := [0, 3, 5, 8, 2, 7]) ?_ (by kernel_rfl)
        rw [← hR]
        exact st0x2x7 wo.heap.size en _ _ hI n39 n42 n41 n44 n47 n46 hT1 hS1 hq1
      · have hn1 := below_new wo (planB noPlan)
        have hT1 := hT.newG hq.size
        have hS1 : (wo.alloc (planB noPlan)).heap[w.heap.size]? = some (planB p) ∧ (wo.alloc (planB noPlan)).heap[w.heap.size + 1]? = some (wheelsB a n c) := (And.intro (heap_lft hS.1 hn1) (heap_lft hS.2 hn1))
        have hq1 := below_thn hq hn1
        obtain ⟨nw, hwe⟩ : ∃ y, wo.alloc (planB noPlan) = y := ⟨_, rfl⟩
        rw [hwe] at hn1 hT1 hS1 hq1
        refine _root_.id (op_value (k := 10) (d := 11) (v := .pointer (some ⟨wo.heap.size, 0, none⟩)) hI rfl rfl (by kernel_rfl) (Nat.lt_of_le_of_lt (by decide) hsz) (wanted_free rfl) (by simp [go_sem]; try rfl) (fun a' hI' n11' hk => ⟨by rw [show _ = nw from hwe]; exact hS1, ?_⟩))
        replace n39 := hk _ _ n39 rfl
        replace n42 := hk _ _ n42 rfl
        replace n44 := hk _ _ n44 rfl
        replace n47 := hk _ _ n47 rfl
        replace n46 := hk _ _ n46 rfl
        have n11 := n11'
        replace hI := hI'
        clear hk hI' n11'
        obtain ⟨act9, rfl⟩ : ∃ x, x = a' := ⟨_, rfl⟩
        rw [show World.alloc wo _ = nw from hwe]
        refine Rest.same (d' := [0, 3, 5, 8, 7, 10]) ?_ (by kernel_rfl)
        rw [← hR]
        exact st0x7x10 en wo.heap.size _ _ hI n39 n42 n44 n47 n46 n11 hT1 hS1 hq1
      · have hn1 := below_new wo (wheelsB none 0 0)
        have hT1 := hT.newH hq.size
        have hS1 : (wo.alloc (wheelsB none 0 0)).heap[w.heap.size]? = some (planB p) ∧ (wo.alloc (wheelsB none 0 0)).heap[w.heap.size + 1]? = some (wheelsB a n c) := (And.intro (heap_lft hS.1 hn1) (heap_lft hS.2 hn1))
        have hq1 := below_thn hq hn1
        obtain ⟨nw, hwe⟩ : ∃ y, wo.alloc (wheelsB none 0 0) = y := ⟨_, rfl⟩
        rw [hwe] at hn1 hT1 hS1 hq1
        refine _root_.id (op_value (k := 11) (d := 13) (v := .pointer (some ⟨wo.heap.size, 0, none⟩)) hI rfl rfl (by kernel_rfl) (Nat.lt_of_le_of_lt (by decide) hsz) (wanted_free rfl) (by simp [go_sem]; try rfl) (fun a' hI' n13' hk => ⟨by rw [show _ = nw from hwe]; exact hS1, ?_⟩))
        replace n39 := hk _ _ n39 rfl
        replace n42 := hk _ _ n42 rfl
        replace n44 := hk _ _ n44 rfl
        replace n47 := hk _ _ n47 rfl
        replace n46 := hk _ _ n46 rfl
        have n13 := n13'
        replace hI := hI'
        clear hk hI' n13'
        obtain ⟨act9, rfl⟩ : ∃ x, x = a' := ⟨_, rfl⟩
        rw [show World.alloc wo _ = nw from hwe]
        refine Rest.same (d' := [0, 3, 5, 8, 7, 11]) ?_ (by kernel_rfl)
        rw [← hR]
        exact st0x7x11 en wo.heap.size _ _ hI n39 n42 n44 n47 n46 n13 hT1 hS1 hq1
    have st0x10 : ∀ (xg : Nat) (ac : Act) (wo : World), Kept (11 :: 12 :: 13 :: 14 :: List.range' 39 10) a0 ac → At ac 39 (.agg #[.int .i64 p.fr, .slice p.ta p.tn p.tc, .int .i64 p.sd, .int .i64 p.ck, .slice p.aa p.an p.ac, .slice p.sa p.sn p.sc, .int .i64 p.bu]) → At ac 42 (.slice wa m wk) → At ac 44 (.agg #[.slice a n c]) → At ac 47 (.slice la ln lc) → At ac 11 (.pointer (some ⟨xg, 0, none⟩)) → LSt W2.heap.size wo ⟨p, T, A, S, m, X, n, F, ln, L⟩ none none none none (some xg) none → (wo.heap[w.heap.size]? = some (planB p) ∧ wo.heap[w.heap.size + 1]? = some (wheelsB a n c)) → Below W2.heap.size W2 wo → R 11 [0, 3, 5, 8, 10] ac wo := by
      clear st4x2x7x10x11 st3x2x7x10x11 st4x2x7x10 st4x2x7x11 st2x2x7x10x11 st3x2x7x10 st3x2x7x11 st3x2x10x11 st4x2x7 st1x2x7x10x11 st2x2x7x10 st2x2x7x11 st2x2x10x11 st3x2x7 st3x2x10 st3x2x11 st0x2x7x10x11 st1x2x7x10 st1x2x7x11 st1x2x10x11 st1x7x10x11 st2x2x7 st2x2x10 st2x2x11 st3x2 st0x2x7x10 st0x2x7x11 st0x2x10x11 st0x7x10x11 st1x2x7 st1x2x10 st1x7x10 st1x2x11 st1x7x11 st1x10x11 st2x2 st0x2x7 st0x2x11 st0x7x11 st1x2 st1x7 st1x11 st0x2 st0x7
      intro xg ac wo hI n39 n42 n44 n47 n11 hT hS hq
      rw [hR]
      refine rest_split [1, 2, 7, 11] (by kernel_rfl) rfl (fun i9 hi9 => ?_)
      have hi9' : i9 = 1 ∨ i9 = 2 ∨ i9 = 7 ∨ i9 = 11 := by simpa using hi9
      clear hi9
      rcases hi9' with rfl | rfl | rfl | rfl
      · refine _root_.id (op_call (k := 1) (d := 40) (R := fun v w' => ∃ a1 k1 a2 k2 a3 k3, v = .agg #[.int .i64 p.fr, .slice a1 p.tn k1, .int .i64 p.sd, .int .i64 p.ck, .slice a2 p.an k2, .slice a3 p.sn k3, .int .i64 p.bu] ∧ OwnPlan w' wo.heap.size (p.moved a1 k1 a2 k2 a3 k3) T A S ∧ Below wo.heap.size wo w') hI rfl rfl (by kernel_rfl) (Nat.lt_of_le_of_lt (by decide) hsz) (wanted_free rfl) ((twin_any p T A S (by have := HN.out; omega) (by have := HN.out; omega) (by have := HN.out; omega) _ (HP2.out.below hq)).mono fun e w' g => by obtain ⟨a1, k1, a2, k2, a3, k3, h1, h2, h3⟩ := g; exact ⟨_, h1, a1, k1, a2, k2, a3, k3, rfl, h2, h3⟩) (by have e39 := n39; have f39 := n39.eval; unfold At at e39; simp [go_sem, e39]) ?_)
        intro v w' a' hR' hI' n40' hk
        obtain ⟨a1, k1, a2, k2, a3, k3, rfl, h1, hb⟩ := hR'
        have hT1 := hT.setC hb hq.size h1
        refine ⟨(And.intro (heap_lft hS.1 hb) (heap_lft hS.2 hb)), ?_⟩
        replace n39 := hk _ _ n39 rfl
        replace n42 := hk _ _ n42 rfl
        replace n44 := hk _ _ n44 rfl
        replace n47 := hk _ _ n47 rfl
        replace n11 := hk _ _ n11 rfl
        have n40 := n40'
        replace hI := hI'
        clear hk hI' n40'
        obtain ⟨act9, rfl⟩ : ∃ x, x = a' := ⟨_, rfl⟩
        have hS1 := (And.intro (heap_lft hS.1 hb) (heap_lft hS.2 hb))
        have hq1 := below_thn hq hb
        refine Rest.same (d' := [0, 3, 5, 8, 10, 1]) ?_ (by kernel_rfl)
        rw [← hR]
        exact st1x10 a1 k1 a2 k2 a3 k3 xg _ _ hI n40 n42 n44 n47 n11 hT1 hS1 hq1
      · have hn1 := below_new wo (.cells #[] 3)
        have hT1 := hT.newB hq.size
        have hS1 : (wo.alloc (.cells #[] 3)).heap[w.heap.size]? = some (planB p) ∧ (wo.alloc (.cells #[] 3)).heap[w.heap.size + 1]? = some (wheelsB a n c) := (And.intro (heap_lft hS.1 hn1) (heap_lft hS.2 hn1))
        have hq1 := below_thn hq hn1
        obtain ⟨nw, hwe⟩ : ∃ y, wo.alloc (.cells #[] 3) = y := ⟨_, rfl⟩
        rw [hwe] at hn1 hT1 hS1 hq1
        refine _root_.id (op_value (k := 2) (d := 41) (v := .slice (some ⟨wo.heap.size, 0, none⟩) 0 0) hI rfl rfl (by kernel_rfl) (Nat.lt_of_le_of_lt (by decide) hsz) (wanted_free rfl) (by simp [go_sem]; try rfl) (fun a' hI' n41' hk => ⟨by rw [hwe]; exact hS1, ?_⟩))
        replace n39 := hk _ _ n39 rfl
        replace n42 := hk _ _ n42 rfl
        replace n44 := hk _ _ n44 rfl
        replace n47 := hk _ _ n47 rfl
        replace n11 := hk _ _ n11 rfl
        have n41 := n41'
        replace hI := hI'
        clear hk hI' n41'
        obtain ⟨act9, rfl⟩ : ∃ x, x = a' := ⟨_, rfl⟩
        rw [hwe]
        refine Rest.same (d' := [0, 3, 5, 8, 2, 10]) ?_ (by kernel_rfl)
        rw [← hR]
        exact st0x2x10 wo.heap.size xg _ _ hI n39 n42 n41 n44 n47 n11 hT1 hS1 hq1
      · have hn1 := below_new wo (.cells #[] 63)
        have hT1 := hT.newE hq.size
        have hS1 : (wo.alloc (.cells #[] 63)).heap[w.heap.size]? = some (planB p) ∧ (wo.alloc (.cells #[] 63)).heap[w.heap.size + 1]? = some (wheelsB a n c) := (And.intro (heap_lft hS.1 hn1) (heap_lft hS.2 hn1))
        have hq1 := below_thn hq hn1
        obtain ⟨nw, hwe⟩ : ∃ y, wo.alloc (.cells #[] 63) = y := ⟨_, rfl⟩
        rw [hwe] at hn1 hT1 hS1 hq1
        refine _root_.id (op_value (k := 7) (d := 46) (v := .slice (some ⟨wo.heap.size, 0, none⟩) 0 0) hI rfl rfl (by kernel_rfl) (Nat.lt_of_le_of_lt (by decide) hsz) (wanted_free rfl) (by simp [go_sem]; try rfl) (fun a' hI' n46' hk => ⟨by rw [hwe]; exact hS1, ?_⟩))
        replace n39 := hk _ _ n39 rfl
        replace n42 := hk _ _ n42 rfl
        replace n44 := hk _ _ n44 rfl
        replace n47 := hk _ _ n47 rfl
        replace n11 := hk _ _ n11 rfl
        have n46 := n46'
        replace hI := hI'
        clear hk hI' n46'
        obtain ⟨act9, rfl⟩ : ∃ x, x = a' := ⟨_, rfl⟩
        rw [hwe]
        refine Rest.same (d' := [0, 3, 5, 8, 7, 10]) ?_ (by kernel_rfl)
        rw [← hR]
        exact st0x7x10 wo.heap.size xg _ _ hI n39 n42 n44 n47 n46 n11 hT1 hS1 hq1
      · have hn1 := below_new wo (wheelsB none 0 0)
        have hT1 := hT.newH hq.size
        have hS1 : (wo.alloc (wheelsB none 0 0)).heap[w.heap.size]? = some (planB p) ∧ (wo.alloc (wheelsB none 0 0)).heap[w.heap.size + 1]? = some (wheelsB a n c) := (And.intro (heap_lft hS.1 hn1) (heap_lft hS.2 hn1))
        have hq1 := below_thn hq hn1
        obtain ⟨nw, hwe⟩ : ∃ y, wo.alloc (wheelsB none 0 0) = y := ⟨_, rfl⟩
        rw [hwe] at hn1 hT1 hS1 hq1
        refine _root_.id (op_value (k := 11) (d := 13) (v := .pointer (some ⟨wo.heap.size, 0, none⟩)) hI rfl rfl (by kernel_rfl) (Nat.lt_of_le_of_lt (by decide) hsz) (wanted_free rfl) (by simp [go_sem]; try rfl) (fun a' hI' n13' hk => ⟨by rw [show _ = nw from hwe]; exact hS1, ?_⟩))
        replace n39 := hk _ _ n39 rfl
        replace n42 := hk _ _ n42 rfl
        replace n44 := hk _ _ n44 rfl
        replace n47 := hk _ _ n47 rfl
        replace n11 := hk _ _ n11 rfl
        have n13 := n13'
        replace hI := hI'
        clear hk hI' n13'
        obtain ⟨act9, rfl⟩ : ∃ x, x = a' := ⟨_, rfl⟩
        rw [show World.alloc wo _ = nw from hwe]
        refine Rest.same (d' := [0, 3, 5, 8, 10, 11]) ?_ (by kernel_rfl)
        rw [← hR]
        exact st0x10x11 xg wo.heap.size _ _ hI n39 n42 n44 n47 n11 n13 hT1 hS1 hq1
    have st0x11 : ∀ (xh : Nat) (ac : Act) (wo : World), Kept (11 :: 12 :: 13 :: 14 :: List.range' 39 10) a0 ac → At ac 39 (.agg #[.int .i64 p.fr, .slice p.ta p.tn p.tc, .int .i64 p.sd, .int .i64 p.ck, .slice p.aa p.an p.ac, .slice p.sa p.sn p.sc, .int .i64 p.bu]) → At ac 42 (.slice wa m wk) → At ac 44 (.agg #[.slice a n c]) → At ac 47 (.slice la ln lc) → At ac 13 (.pointer (some ⟨xh, 0, none⟩)) → LSt W2.heap.size wo ⟨p, T, A, S, m, X, n, F, ln, L⟩ none none none none none (some xh) → (wo.heap[w.heap.size]? = some (planB p) ∧ wo.heap[w.heap.size + 1]? = some (wheelsB a n c)) → Below W2.heap.size W2 wo → R 11 [0, 3, 5, 8, 11] ac wo := by
      clear st4x2x7x10x11 st3x2x7x10x11 st4x2x7x10 st4x2x7x11 st2x2x7x10x11 st3x2x7x10 st3x2x7x11 st3x2x10x11 st4x2x7 st1x2x7x10x11 st2x2x7x10 st2x2x7x11 st2x2x10x11 st3x2x7 st3x2x10 st3x2x11 st0x2x7x10x11 st1x2x7x10 st1x2x7x11 st1x2x10x11 st1x7x10x11 st2x2x7 st2x2x10 st2x2x11 st3x2 st0x2x7x10 st0x2x7x11 st0x2x10x11 st0x7x10x11 st1x2x7 st1x2x10 st1x7x10 st1x2x11 st1x7x11 st1x10x11 st2x2 st0x2x7 st0x2x10 st0x7x10 st1x2 st1x7 st1x10 st0x2 st0x7 st0x10
      intro xh ac wo hI n39 n42 n44 n47 n13 hT hS hq
      rw [hR]
      refine rest_split [1, 2, 7, 10] (by kernel_rfl) rfl (fun i9 hi9 => ?_)
      have hi9' : i9 = 1 ∨ i9 = 2 ∨ i9 = 7 ∨ i9 = 10 := by simpa using hi9
      clear hi9
      rcases hi9' with rfl | rfl | rfl | rfl
      · refine _root_.id (op_call (k := 1) (d := 40) (R := fun v w' => ∃ a1 k1 a2 k2 a3 k3, v = .agg #[.int .i64 p.fr, .slice a1 p.tn k1, .int .i64 p.sd, .int .i64 p.ck, .slice a2 p.an k2, .slice a3 p.sn k3, .int .i64 p.bu] ∧ OwnPlan w' wo.heap.size (p.moved a1 k1 a2 k2 a3 k3) T A S ∧ Below wo.heap.size wo w') hI rfl rfl (by kernel_rfl) (Nat.lt_of_le_of_lt (by decide) hsz) (wanted_free rfl) ((twin_any p T A S (by have := HN.out; omega) (by have := HN.out; omega) (by have := HN.out; omega) _ (HP2.out.below hq)).mono fun e w' g => by obtain ⟨a1, k1, a2, k2, a3, k3, h1, h2, h3⟩ := g; exact ⟨_, h1, a1, k1, a2, k2, a3, k3, rfl, h2, h3⟩) (by have e39 := n39; have f39 := n39.eval; unfold At at e39; simp [go_sem, e39]) ?_)
        intro v w' a' hR' hI' n40' hk
        obtain ⟨a1, k1, a2, k2, a3, k3, rfl, h1, hb⟩ := hR'
        have hT1 := hT.setC hb hq.size h1
        refine ⟨(And.intro (heap_lft hS.1 hb) (heap_lft hS.2 hb)), ?_⟩
        replace n39 := hk _ _ n39 rfl
        replace n42 := hk _ _ n42 rfl
        replace n44 := hk _ _ n44 rfl
        replace n47 := hk _ _ n47 rfl
        replace n13 := hk _ _ n13 rfl
        have n40 := n40'
        replace hI := hI'
        clear hk hI' n40'
        obtain ⟨act9, rfl⟩ : ∃ x, x = a' := ⟨_, rfl⟩
        have hS1 := (And.intro (heap_lft hS.1 hb) (heap_lft hS.2 hb))
        have hq1 := below_thn hq hb
        refine Rest.same (d' := [0, 3, 5, 8, 11, 1]) ?_ (by kernel_rfl)
        rw [← hR]
        exact st1x11 a1 k1 a2 k2 a3 k3 xh _ _ hI n40 n42 n44 n47 n13 hT1 hS1 hq1
      · have hn1 := below_new wo (.cells #[] 3)
        have hT1 := hT.newB hq.size
        have hS1 : (wo.alloc (.cells #[] 3)).heap[w.heap.size]? = some (planB p) ∧ (wo.alloc (.cells #[] 3)).heap[w.heap.size + 1]? = some (wheelsB a n c) := (And.intro (heap_lft hS.1 hn1) (heap_lft hS.2 hn1))
        have hq1 := below_thn hq hn1
        obtain ⟨nw, hwe⟩ : ∃ y, wo.alloc (.cells #[] 3) = y := ⟨_, rfl⟩
        rw [hwe] at hn1 hT1 hS1 hq1
        refine _root_.id (op_value (k := 2) (d := 41) (v := .slice (some ⟨wo.heap.size, 0, none⟩) 0 0) hI rfl rfl (by kernel_rfl) (Nat.lt_of_le_of_lt (by decide) hsz) (wanted_free rfl) (by simp [go_sem]; try rfl) (fun a' hI' n41' hk => ⟨by rw [hwe]; exact hS1, ?_⟩))
        replace n39 := hk _ _ n39 rfl
        replace n42 := hk _ _ n42 rfl
        replace n44 := hk _ _ n44 rfl
        replace n47 := hk _ _ n47 rfl
        replace n13 := hk _ _ n13 rfl
        have n41 := n41'
        replace hI := hI'
        clear hk hI' n41'
        obtain ⟨act9, rfl⟩ : ∃ x, x = a' := ⟨_, rfl⟩
        rw [hwe]
        refine Rest.same (d' := [0, 3, 5, 8, 2, 11]) ?_ (by kernel_rfl)
        rw [← hR]
        exact st0x2x11 wo.heap.size xh _ _ hI n39 n42 n41 n44 n47 n13 hT1 hS1 hq1
      · have hn1 := below_new wo (.cells #[] 63)
        have hT1 := hT.newE hq.size
        have hS1 : (wo.alloc (.cells #[] 63)).heap[w.heap.size]? = some (planB p) ∧ (wo.alloc (.cells #[] 63)).heap[w.heap.size + 1]? = some (wheelsB a n c) := (And.intro (heap_lft hS.1 hn1) (heap_lft hS.2 hn1))
        have hq1 := below_thn hq hn1
        obtain ⟨nw, hwe⟩ : ∃ y, wo.alloc (.cells #[] 63) = y := ⟨_, rfl⟩
        rw [hwe] at hn1 hT1 hS1 hq1
        refine _root_.id (op_value (k := 7) (d := 46) (v := .slice (some ⟨wo.heap.size, 0, none⟩) 0 0) hI rfl rfl (by kernel_rfl) (Nat.lt_of_le_of_lt (by decide) hsz) (wanted_free rfl) (by simp [go_sem]; try rfl) (fun a' hI' n46' hk => ⟨by rw [hwe]; exact hS1, ?_⟩))
        replace n39 := hk _ _ n39 rfl
        replace n42 := hk _ _ n42 rfl
        replace n44 := hk _ _ n44 rfl
        replace n47 := hk _ _ n47 rfl
        replace n13 := hk _ _ n13 rfl
        have n46 := n46'
        replace hI := hI'
        clear hk hI' n46'
        obtain ⟨act9, rfl⟩ : ∃ x, x = a' := ⟨_, rfl⟩
        rw [hwe]
        refine Rest.same (d' := [0, 3, 5, 8, 7, 11]) ?_ (by kernel_rfl)
        rw [← hR]
        exact st0x7x11 wo.heap.size xh _ _ hI n39 n42 n44 n47 n46 n13 hT1 hS1 hq1
      · have hn1 := below_new wo (planB noPlan)
        have hT1 := hT.newG hq.size
        have hS1 : (wo.alloc (planB noPlan)).heap[w.heap.size]? = some (planB p) ∧ (wo.alloc (planB noPlan)).heap[w.heap.size + 1]? = some (wheelsB a n c) := (And.intro (heap_lft hS.1 hn1) (heap_lft hS.2 hn1))
        have hq1 := below_thn hq hn1
        obtain ⟨nw, hwe⟩ : ∃ y, wo.alloc (planB noPlan) = y := ⟨_, rfl⟩
        rw [hwe] at hn1 hT1 hS1 hq1
        refine _root_.id (op_value (k := 10) (d := 11) (v := .pointer (some ⟨wo.heap.size, 0, none⟩)) hI rfl rfl (by kernel_rfl) (Nat.lt_of_le_of_lt (by decide) hsz) (wanted_free rfl) (by simp [go_sem]; try rfl) (fun a' hI' n11' hk => ⟨by rw [show _ = nw from hwe]; exact hS1, ?_⟩))
        replace n39 := hk _ _ n39 rfl
        replace n42 := hk _ _ n42 rfl
        replace n44 := hk _ _ n44 rfl
        replace n47 := hk _ _ n47 rfl
        replace n13 := hk _ _ n13 rfl
        have n11 := n11'
        replace hI := hI'
        clear hk hI' n11'
        obtain ⟨act9, rfl⟩ : ∃ x, x = a' := ⟨_, rfl⟩
        rw [show World.alloc wo _ = nw from hwe]
        refine Rest.same (d' := [0, 3, 5, 8, 10, 11]) ?_ (by kernel_rfl)
        rw [← hR]
        exact st0x10x11 wo.heap.size xh _ _ hI n39 n42 n44 n47 n11 n13 hT1 hS1 hq1
    have st1 : ∀ (a1 : Option Addr) (k1 : Nat) (a2 : Option Addr) (k2 : Nat) (a3 : Option Addr) (k3 : Nat) (ac : Act) (wo : World), Kept (11 :: 12 :: 13 :: 14 :: List.range' 39 10) a0 ac → At ac 40 (.agg #[.int .i64 p.fr, .slice a1 p.tn k1, .int .i64 p.sd, .int .i64 p.ck, .slice a2 p.an k2, .slice a3 p.sn k3, .int .i64 p.bu]) → At ac 42 (.slice wa m wk) → At ac 44 (.agg #[.slice a n c]) → At ac 47 (.slice la ln lc) → LSt W2.heap.size wo ⟨p, T, A, S, m, X, n, F, ln, L⟩ (some (a1, k1, a2, k2, a3, k3)) none none none none none → (wo.heap[w.heap.size]? = some (planB p) ∧ wo.heap[w.heap.size + 1]? = some (wheelsB a n c)) → Below W2.heap.size W2 wo → R 11 [0, 3, 5, 8, 1] ac wo := by
      clear st4x2x7x10x11 st3x2x7x10x11 st4x2x7x10 st4x2x7x11 st2x2x7x10x11 st3x2x7x10 st3x2x7x11 st3x2x10x11 st4x2x7 st1x2x7x10x11 st2x2x7x10 st2x2x7x11 st2x2x10x11 st3x2x7 st3x2x10 st3x2x11 st0x2x7x10x11 st1x2x7x10 st1x2x7x11 st1x2x10x11 st1x7x10x11 st2x2x7 st2x2x10 st2x2x11 st3x2 st0x2x7x10 st0x2x7x11 st0x2x10x11 st0x7x10x11 st1x2x7 st1x2x10 st1x7x10 st1x2x11 st1x7x11 st1x10x11 st2x2 st0x2x7 st0x2x10 st0x7x10 st0x2x11 st0x7x11 st0x10x11 st0x2 st0x7 st0x10 st0x11
      intro a1 k1 a2 k2 a3 k3 ac wo hI n40 n42 n44 n47 hT hS hq
      rw [hR]
      refine rest_split [2, 7, 10, 11] (by kernel_rfl) rfl (fun i9 hi9 => ?_)
      have hi9' : i9 = 2 ∨ i9 = 7 ∨ i9 = 10 ∨ i9 = 11 := by simpa using hi9
      clear hi9
      rcases hi9' with rfl | rfl | rfl | rfl
      · have hn1 := below_new wo (.cells #[] 3)
        have hT1 := hT.newB hq.size
        have hS1 : (wo.alloc (.cells #[] 3)).heap[w.heap.size]? = some (planB p) ∧ (wo.alloc (.cells #[] 3)).heap[w.heap.size + 1]? = some (wheelsB a n c) := (And.intro (heap_lft hS.1 hn1) (heap_lft hS.2 hn1))
        have hq1 := below_thn hq hn1
        obtain ⟨nw, hwe⟩ : ∃ y, wo.alloc (.cells #[] 3) = y := ⟨_, rfl⟩
        rw [hwe] at hn1 hT1 hS1 hq1
        refine _root_.id (op_value (k := 2) (d := 41) (v := .slice (some ⟨wo.heap.size, 0, none⟩) 0 0) hI rfl rfl (by kernel_rfl) (Nat.lt_of_le_of_lt (by decide) hsz) (wanted_free rfl) (by simp [go_sem]; try rfl) (fun a' hI' n41' hk => ⟨by rw [hwe]; exact hS1, ?_⟩))
        replace n40 := hk _ _ n40 rfl
        replace n42 := hk _ _ n42 rfl
        replace n44 := hk _ _ n44 rfl
        replace n47 := hk _ _ n47 rfl
        have n41 := n41'
        replace hI := hI'
        clear hk hI' n41'
        obtain ⟨act9, rfl⟩ : ∃ x, x = a' := ⟨_, rfl⟩
        rw [hwe]
        refine Rest.same (d' := [0, 3, 5, 8, 2, 1]) ?_ (by kernel_rfl)
        rw [← hR]
        exact st1x2 a1 k1 a2 k2 a3 k3 wo.heap.size _ _ hI n40 n42 n41 n44 n47 hT1 hS1 hq1
      · have hn1 := below_new wo (.cells #[] 63)
        have hT1 := hT.newE hq.size
        have hS1 : (wo.alloc (.cells #[] 63)).heap[w.heap.size]? = some (planB p) ∧ (wo.alloc (.cells #[] 63)).heap[w.heap.size + 1]? = some (wheelsB a n c) := (And.intro (heap_lft hS.1 hn1) (heap_lft hS.2 hn1))
        have hq1 := below_thn hq hn1
        obtain ⟨nw, hwe⟩ : ∃ y, wo.alloc (.cells #[] 63) = y := ⟨_, rfl⟩
        rw [hwe] at hn1 hT1 hS1 hq1
        refine _root_.id (op_value (k := 7) (d := 46) (v := .slice (some ⟨wo.heap.size, 0, none⟩) 0 0) hI rfl rfl (by kernel_rfl) (Nat.lt_of_le_of_lt (by decide) hsz) (wanted_free rfl) (by simp [go_sem]; try rfl) (fun a' hI' n46' hk => ⟨by rw [hwe]; exact hS1, ?_⟩))
        replace n40 := hk _ _ n40 rfl
        replace n42 := hk _ _ n42 rfl
        replace n44 := hk _ _ n44 rfl
        replace n47 := hk _ _ n47 rfl
        have n46 := n46'
        replace hI := hI'
        clear hk hI' n46'
        obtain ⟨act9, rfl⟩ : ∃ x, x = a' := ⟨_, rfl⟩
        rw [hwe]
        refine Rest.same (d' := [0, 3, 5, 8, 7, 1]) ?_ (by kernel_rfl)
        rw [← hR]
        exact st1x7 a1 k1 a2 k2 a3 k3 wo.heap.size _ _ hI n40 n42 n44 n47 n46 hT1 hS1 hq1
      · have hn1 := below_new wo (planB noPlan)
        have hT1 := hT.newG hq.size
        have hS1 : (wo.alloc (planB noPlan)).heap[w.heap.size]? = some (planB p) ∧ (wo.alloc (planB noPlan)).heap[w.heap.size + 1]? = some (wheelsB a n c) := (And.intro (heap_lft hS.1 hn1) (heap_lft hS.2 hn1))
        have hq1 := below_thn hq hn1
        obtain ⟨nw, hwe⟩ : ∃ y, wo.alloc (planB noPlan) = y := ⟨_, rfl⟩
        rw [hwe] at hn1 hT1 hS1 hq1
        refine _root_.id (op_value (k := 10) (d := 11) (v := .pointer (some ⟨wo.heap.size, 0, none⟩)) hI rfl rfl (by kernel_rfl) (Nat.lt_of_le_of_lt (by decide) hsz) (wanted_free rfl) (by simp [go_sem]; try rfl) (fun a' hI' n11' hk => ⟨by rw [show _ = nw from hwe]; exact hS1, ?_⟩))
        replace n40 := hk _ _ n40 rfl
        replace n42 := hk _ _ n42 rfl
        replace n44 := hk _ _ n44 rfl
        replace n47 := hk _ _ n47 rfl
        have n11 := n11'
        replace hI := hI'
        clear hk hI' n11'
        obtain ⟨act9, rfl⟩ : ∃ x, x = a' := ⟨_, rfl⟩
        rw [show World.alloc wo _ = nw from hwe]
        refine Rest.same (d' := [0, 3, 5, 8, 10, 1]) ?_ (by kernel_rfl)
        rw [← hR]
        exact st1x10 a1 k1 a2 k2 a3 k3 wo.heap.size _ _ hI n40 n42 n44 n47 n11 hT1 hS1 hq1
      · have hn1 := below_new wo (wheelsB none 0 0)
        have hT1 := hT.newH hq.size
        have hS1 : (wo.alloc (wheelsB none 0 0)).heap[w.heap.size]? = some (planB p) ∧ (wo.alloc (wheelsB none 0 0)).heap[w.heap.size + 1]? = some (wheelsB a n c) := (And.intro (heap_lft hS.1 hn1) (heap_lft hS.2 hn1))
        have hq1 := below_thn hq hn1
        obtain ⟨nw, hwe⟩ : ∃ y, wo.alloc (wheelsB none 0 0) = y := ⟨_, rfl⟩
        rw [hwe] at hn1 hT1 hS1 hq1
        refine _root_.id (op_value (k := 11) (d := 13) (v := .pointer (some ⟨wo.heap.size, 0, none⟩)) hI rfl rfl (by kernel_rfl) (Nat.lt_of_le_of_lt (by decide) hsz) (wanted_free rfl) (by simp [go_sem]; try rfl) (fun a' hI' n13' hk => ⟨by rw [show _ = nw from hwe]; exact hS1, ?_⟩))
        replace n40 := hk _ _ n40 rfl
        replace n42 := hk _ _ n42 rfl
        replace n44 := hk _ _ n44 rfl
        replace n47 := hk _ _ n47 rfl
        have n13 := n13'
        replace hI := hI'
        clear hk hI' n13'
        obtain ⟨act9, rfl⟩ : ∃ x, x = a' := ⟨_, rfl⟩
        rw [show World.alloc wo _ = nw from hwe]
        refine Rest.same (d' := [0, 3, 5, 8, 11, 1]) ?_ (by kernel_rfl)
        rw [← hR]
        exact st1x11 a1 k1 a2 k2 a3 k3 wo.heap.size _ _ hI n40 n42 n44 n47 n13 hT1 hS1 hq1
    have st0 : ∀ (ac : Act) (wo : World), Kept (11 :: 12 :: 13 :: 14 :: List.range' 39 10) a0 ac → At ac 39 (.agg #[.int .i64 p.fr, .slice p.ta p.tn p.tc, .int .i64 p.sd, .int .i64 p.ck, .slice p.aa p.an p.ac, .slice p.sa p.sn p.sc, .int .i64 p.bu]) → At ac 42 (.slice wa m wk) → At ac 44 (.agg #[.slice a n c]) → At ac 47 (.slice la ln lc) → LSt W2.heap.size wo ⟨p, T, A, S, m, X, n, F, ln, L⟩ none none none none none none → (wo.heap[w.heap.size]? = some (planB p) ∧ wo.heap[w.heap.size + 1]? = some (wheelsB a n c)) → Below W2.heap.size W2 wo → R 12 [0, 3, 5, 8] ac wo := by
      clear st4x2x7x10x11 st3x2x7x10x11 st4x2x7x10 st4x2x7x11 st2x2x7x10x11 st3x2x7x10 st3x2x7x11 st3x2x10x11 st4x2x7 st1x2x7x10x11 st2x2x7x10 st2x2x7x11 st2x2x10x11 st3x2x7 st3x2x10 st3x2x11 st0x2x7x10x11 st1x2x7x10 st1x2x7x11 st1x2x10x11 st1x7x10x11 st2x2x7 st2x2x10 st2x2x11 st3x2 st0x2x7x10 st0x2x7x11 st0x2x10x11 st0x7x10x11 st1x2x7 st1x2x10 st1x7x10 st1x2x11 st1x7x11 st1x10x11 st2x2 st0x2x7 st0x2x10 st0x7x10 st0x2x11 st0x7x11 st0x10x11 st1x2 st1x7 st1x10 st1x11
      intro ac wo hI n39 n42 n44 n47 hT hS hq
      rw [hR]
      refine rest_split [1, 2, 7, 10, 11] (by kernel_rfl) rfl (fun i9 hi9 => ?_)
      have hi9' : i9 = 1 ∨ i9 = 2 ∨ i9 = 7 ∨ i9 = 10 ∨ i9 = 11 := by simpa using hi9
      clear hi9
      rcases hi9' with rfl | rfl | rfl | rfl | rfl
      · refine _root_.id (op_call (k := 1) (d := 40) (R := fun v w' => ∃ a1 k1 a2 k2 a3 k3, v = .agg #[.int .i64 p.fr, .slice a1 p.tn k1, .int .i64 p.sd, .int .i64 p.ck, .slice a2 p.an k2, .slice a3 p.sn k3, .int .i64 p.bu] ∧ OwnPlan w' wo.heap.size (p.moved a1 k1 a2 k2 a3 k3) T A S ∧ Below wo.heap.size wo w') hI rfl rfl (by kernel_rfl) (Nat.lt_of_le_of_lt (by decide) hsz) (wanted_free rfl) ((twin_any p T A S (by have := HN.out; omega) (by have := HN.out; omega) (by have := HN.out; omega) _ (HP2.out.below hq)).mono fun e w' g => by obtain ⟨a1, k1, a2, k2, a3, k3, h1, h2, h3⟩ := g; exact ⟨_, h1, a1, k1, a2, k2, a3, k3, rfl, h2, h3⟩) (by have e39 := n39; have f39 := n39.eval; unfold At at e39; simp [go_sem, e39]) ?_)
        intro v w' a' hR' hI' n40' hk
        obtain ⟨a1, k1, a2, k2, a3, k3, rfl, h1, hb⟩ := hR'
        have hT1 := hT.setC hb hq.size h1
        refine ⟨(And.intro (heap_lft hS.1 hb) (heap_lft hS.2 hb)), ?_⟩
        replace n39 := hk _ _ n39 rfl
        replace n42 := hk _ _ n42 rfl
        replace n44 := hk _ _ n44 rfl
        replace n47 := hk _ _ n47 rfl
        have n40 := n40'
        replace hI := hI'
        clear hk hI' n40'
        obtain ⟨act9, rfl⟩ : ∃ x, x = a' := ⟨_, rfl⟩
        have hS1 := (And.intro (heap_lft hS.1 hb) (heap_lft hS.2 hb))
        have hq1 := below_thn hq hb
        refine Rest.same (d' := [0, 3, 5, 8, 1]) ?_ (by kernel_rfl)
        rw [← hR]
        exact st1 a1 k1 a2 k2 a3 k3 _ _ hI n40 n42 n44 n47 hT1 hS1 hq1
      · have hn1 := below_new wo (.cells #[] 3)
        have hT1 := hT.newB hq.size
        have hS1 : (wo.alloc (.cells #[] 3)).heap[w.heap.size]? = some (planB p) ∧ (wo.alloc (.cells #[] 3)).heap[w.heap.size + 1]? = some (wheelsB a n c) := (And.intro (heap_lft hS.1 hn1) (heap_lft hS.2 hn1))
        have hq1 := below_thn hq hn1
        obtain ⟨nw, hwe⟩ : ∃ y, wo.alloc (.cells #[] 3) = y := ⟨_, rfl⟩
        rw [hwe] at hn1 hT1 hS1 hq1
        refine _root_.id (op_value (k := 2) (d := 41) (v := .slice (some ⟨wo.heap.size, 0, none⟩) 0 0) hI rfl rfl (by kernel_rfl) (Nat.lt_of_le_of_lt (by decide) hsz) (wanted_free rfl) (by simp [go_sem]; try rfl) (fun a' hI' n41' hk => ⟨by rw [hwe]; exact hS1, ?_⟩))
        replace n39 := hk _ _ n39 rfl
        replace n42 := hk _ _ n42 rfl
        replace n44 := hk _ _ n44 rfl
        replace n47 := hk _ _ n47 rfl
        have n41 := n41'
        replace hI := hI'
        clear hk hI' n41'
        obtain ⟨act9, rfl⟩ : ∃ x, x = a' := ⟨_, rfl⟩
        rw [hwe]
        refine Rest.same (d' := [0, 3, 5, 8, 2]) ?_ (by kernel_rfl)
        rw [← hR]
        exact st0x2 wo.heap.size _ _ hI n39 n42 n41 n44 n47 hT1 hS1 hq1
      · have hn1 := below_new wo (.cells #[] 63)
        have hT1 := hT.newE hq.size
        have hS1 : (wo.alloc (.cells #[] 63)).heap[w.heap.size]? = some (planB p) ∧ (wo.alloc (.cells #[] 63)).heap[w.heap.size + 1]? = some (wheelsB a n c) := (And.intro (heap_lft hS.1 hn1) (heap_lft hS.2 hn1))
        have hq1 := below_thn hq hn1
        obtain ⟨nw, hwe⟩ : ∃ y, wo.alloc (.cells #[] 63) = y := ⟨_, rfl⟩
        rw [hwe] at hn1 hT1 hS1 hq1
        refine _root_.id (op_value (k := 7) (d := 46) (v := .slice (some ⟨wo.heap.size, 0, none⟩) 0 0) hI rfl rfl (by kernel_rfl) (Nat.lt_of_le_of_lt (by decide) hsz) (wanted_free rfl) (by simp [go_sem]; try rfl) (fun a' hI' n46' hk => ⟨by rw [hwe]; exact hS1, ?_⟩))
        replace n39 := hk _ _ n39 rfl
        replace n42 := hk _ _ n42 rfl
        replace n44 := hk _ _ n44 rfl
        replace n47 := hk _ _ n47 rfl
        have n46 := n46'
        replace hI := hI'
        clear hk hI' n46'
        obtain ⟨act9, rfl⟩ : ∃ x, x = a' := ⟨_, rfl⟩
        rw [hwe]
        refine Rest.same (d' := [0, 3, 5, 8, 7]) ?_ (by kernel_rfl)
        rw [← hR]
        exact st0x7 wo.heap.size _ _ hI n39 n42 n44 n47 n46 hT1 hS1 hq1
      · have hn1 := below_new wo (planB noPlan)
        have hT1 := hT.newG hq.size
        have hS1 : (wo.alloc (planB noPlan)).heap[w.heap.size]? = some (planB p) ∧ (wo.alloc (planB noPlan)).heap[w.heap.size + 1]? = some (wheelsB a n c) := (And.intro (heap_lft hS.1 hn1) (heap_lft hS.2 hn1))
        have hq1 := below_thn hq hn1
        obtain ⟨nw, hwe⟩ : ∃ y, wo.alloc (planB noPlan) = y := ⟨_, rfl⟩
        rw [hwe] at hn1 hT1 hS1 hq1
        refine _root_.id (op_value (k := 10) (d := 11) (v := .pointer (some ⟨wo.heap.size, 0, none⟩)) hI rfl rfl (by kernel_rfl) (Nat.lt_of_le_of_lt (by decide) hsz) (wanted_free rfl) (by simp [go_sem]; try rfl) (fun a' hI' n11' hk => ⟨by rw [show _ = nw from hwe]; exact hS1, ?_⟩))
        replace n39 := hk _ _ n39 rfl
        replace n42 := hk _ _ n42 rfl
        replace n44 := hk _ _ n44 rfl
        replace n47 := hk _ _ n47 rfl
        have n11 := n11'
        replace hI := hI'
        clear hk hI' n11'
        obtain ⟨act9, rfl⟩ : ∃ x, x = a' := ⟨_, rfl⟩
        rw [show World.alloc wo _ = nw from hwe]
        refine Rest.same (d' := [0, 3, 5, 8, 10]) ?_ (by kernel_rfl)
        rw [← hR]
        exact st0x10 wo.heap.size _ _ hI n39 n42 n44 n47 n11 hT1 hS1 hq1
      · have hn1 := below_new wo (wheelsB none 0 0)
        have hT1 := hT.newH hq.size
        have hS1 : (wo.alloc (wheelsB none 0 0)).heap[w.heap.size]? = some (planB p) ∧ (wo.alloc (wheelsB none 0 0)).heap[w.heap.size + 1]? = some (wheelsB a n c) := (And.intro (heap_lft hS.1 hn1) (heap_lft hS.2 hn1))
        have hq1 := below_thn hq hn1
        obtain ⟨nw, hwe⟩ : ∃ y, wo.alloc (wheelsB none 0 0) = y := ⟨_, rfl⟩
        rw [hwe] at hn1 hT1 hS1 hq1
        refine _root_.id (op_value (k := 11) (d := 13) (v := .pointer (some ⟨wo.heap.size, 0, none⟩)) hI rfl rfl (by kernel_rfl) (Nat.lt_of_le_of_lt (by decide) hsz) (wanted_free rfl) (by simp [go_sem]; try rfl) (fun a' hI' n13' hk => ⟨by rw [show _ = nw from hwe]; exact hS1, ?_⟩))
        replace n39 := hk _ _ n39 rfl
        replace n42 := hk _ _ n42 rfl
        replace n44 := hk _ _ n44 rfl
        replace n47 := hk _ _ n47 rfl
        have n13 := n13'
        replace hI := hI'
        clear hk hI' n13'
        obtain ⟨act9, rfl⟩ : ∃ x, x = a' := ⟨_, rfl⟩
        rw [show World.alloc wo _ = nw from hwe]
        refine Rest.same (d' := [0, 3, 5, 8, 11]) ?_ (by kernel_rfl)
        rw [← hR]
        exact st0x11 wo.heap.size _ _ hI n39 n42 n44 n47 n13 hT1 hS1 hq1
    rw [hR]
    refine Rest.same (d' := [0, 3, 5, 8]) ?_ (by kernel_rfl)
    rw [← hR]
    exact st0 _ _ hI n39 n42 n44 n47 (lst_start _ _ _) hS hq
  case rest =>
    obtain ⟨V, rfl⟩ : ∃ x, x = wc := ⟨_, rfl⟩
    obtain ⟨xg, xh, a1, k1, a2, k2, a3, k3, bb, bk, dd, dk, ee, ek, rfl, rfl, rfl, rfl, hO, hb⟩ := hcut
    have HX3 := Lib.hid (heap_lft HX2.out hb)
    have HY3 := Lib.hid (heap_lft HY2.out hb)
    have HP3 := Lib.hid (HP2.out.below hb)
    have HXX3 := Lib.hid (HXX2.out.below hb)
    have HFF3 := Lib.hid (HFF2.out.below hb)
    have HLL3 := Lib.hid (HLL2.out.below hb)
    have HB3 := Lib.hid (below_thn HB2.out hb)
    have HO3 := Lib.hid hO
    clear hb hO
    have g0 := heap_cell HO3.out.g (j := 0) rfl
    have g1 := heap_cell HO3.out.g (j := 1) rfl
    have g2 := heap_cell HO3.out.g (j := 2) rfl
    have g3 := heap_cell HO3.out.g (j := 3) rfl
    have g4 := heap_cell HO3.out.g (j := 4) rfl
    have g5 := heap_cell HO3.out.g (j := 5) rfl
    have g6 := heap_cell HO3.out.g (j := 6) rfl
    have h0 := heap_cell HO3.out.h (j := 0) rfl
    go_wp2_with fail
    refine (paced_any (p.moved a1 k1 a2 k2 a3 k3) T A S bb m bk X dd n dk F ee ln ek L b (by have := HN.out; dsimp only; omega) (by have := HN.out; dsimp only; omega) (by have := HN.out; dsimp only; omega) HO3.out.c.nil0 HM.out HS.out.1 HS.out.2 HG0.out.2.2.2.2 _ HO3.out.c.at (by simpa using HO3.out.b.nums) (by simpa using HO3.out.d.nums) HO3.out.e.nums).mono ?_
    rintro e PA ⟨qA, rfl, hcA, hb⟩
    clear g0 g1 g2 g3 g4 g5 g6 h0
    rw [show Pure.paceC (p.moved a1 k1 a2 k2 a3 k3) T A S m X n F ln L b = Pure.paceC p T A S m X n F ln L b from rfl] at hcA ⊢
    obtain ⟨cd, hcd⟩ : ∃ x, Pure.paceC p T A S m X n F ln L b = x := ⟨_, rfl⟩
    rw [hcd] at hcA ⊢
    obtain ⟨GG, hGG⟩ : ∃ x, Pure.paceG T X (Pure.ratN n F ln L) (Pure.ratD n F ln L) b m = x := ⟨_, rfl⟩
    rw [hGG] at hcA
    have HCD := Lib.hid hcd
    have HGG := Lib.hid hGG
    have HCA := Lib.hid hcA
    have HLA := Lib.hid hb
    have HXA := Lib.hid (heap_lft HX3.out hb)
    have HYA := Lib.hid (heap_lft HY3.out hb)
    have HPA := Lib.hid (HP3.out.below hb)
    have HXXA := Lib.hid (HXX3.out.below hb)
    have HFFA := Lib.hid (HFF3.out.below hb)
    have HLLA := Lib.hid (HLL3.out.below hb)
    have HBA := Lib.hid (below_thn HB3.out hb)
    have HOA := Lib.hid (HO3.out.below hb)
    clear hb hcd hGG hcA
    go_upto_region 5 with fail
    obtain ⟨U, hU⟩ : ∃ x, PA.alloc (planB qA) = x := ⟨_, rfl⟩
    have hb : Below PA.heap.size PA U := by rw [← hU]; exact below_new _ _
    have HRU : Hid (U.heap[PA.heap.size]? = some (planB qA)) := Lib.hid (by rw [← hU]; exact heap_top _ _ rfl)
    have HXU := Lib.hid (heap_lft HXA.out hb)
    have HYU := Lib.hid (heap_lft HYA.out hb)
    have HPU := Lib.hid (HPA.out.below hb)
    have HXXU := Lib.hid (HXXA.out.below hb)
    have HFFU := Lib.hid (HFFA.out.below hb)
    have HLLU := Lib.hid (HLLA.out.below hb)
    have HBU := Lib.hid (below_thn HBA.out hb)
    have HOU := Lib.hid (HOA.out.below hb)
    have HLU := Lib.hid (below_thn HLA.out hb)
    have HAU := Lib.hid hb
    try rw [hU]
    clear hU hb
    have x0 := heap_cell HXU.out (j := 0) rfl
    have x1 := heap_cell HXU.out (j := 1) rfl
    have x2 := heap_cell HXU.out (j := 2) rfl
    have x3 := heap_cell HXU.out (j := 3) rfl
    have x4 := heap_cell HXU.out (j := 4) rfl
    have x5 := heap_cell HXU.out (j := 5) rfl
    have x6 := heap_cell HXU.out (j := 6) rfl
    have y0 := heap_cell HYU.out (j := 0) rfl
    go_wp2_with fail
    refine (rPaced_any p T A S wa m wk X a n c F la ln lc L b (by have := HN.out; omega) (by have := HN.out; omega) (by have := HN.out; omega) HG0.out.1.1 HG0.out.1.2 HM.out HS.out.1 HS.out.2 _ HPU.out HXXU.out HFFU.out HLLU.out).mono ?_
    rintro e PB ⟨qB, rfl, hcB, hb⟩
    clear x0 x1 x2 x3 x4 x5 x6 y0
    rw [HCD.out] at hcB ⊢
    rw [HGG.out] at hcB
    obtain ⟨GA, AA, SA, u1, v1, u2, v2, u3, v3, rfl, hn', ha', hs', hoA, hoB⟩ := paced_pair (by have := HN.out; omega) (by have := HN.out; omega) (by have := HN.out; omega) HCA.out hcB
    have HNA := Lib.hid (And.intro hn' (And.intro ha' hs'))
    have HWA := Lib.hid (hoA.below (below_thn HAU.out hb))
    have HWB := Lib.hid hoB
    have HRB := Lib.hid (heap_lft HRU.out hb)
    have HXB := Lib.hid (heap_lft HXU.out hb)
    have HYB := Lib.hid (heap_lft HYU.out hb)
    have HPB := Lib.hid (HPU.out.below hb)
    have HXXB := Lib.hid (HXXU.out.below hb)
    have HFFB := Lib.hid (HFFU.out.below hb)
    have HLLB := Lib.hid (HLLU.out.below hb)
    have HBB := Lib.hid (below_thn HBU.out hb)
    have HOB := Lib.hid (HOU.out.below hb)
    have HLB := Lib.hid (below_thn HLU.out hb)
    have HROW : Hid (RowOk PB V.heap.size PA.heap.size 1 qA.ta qA.tn ∧ RowOk PB V.heap.size PA.heap.size 2 qA.aa qA.an ∧ RowOk PB V.heap.size PA.heap.size 4 qA.sa qA.sn) := Lib.hid (have g := below_thn HAU.out hb; ⟨hoA.t.row.below g, hoA.a.row.below g, hoA.s.row.below g⟩)
    clear hb hcB hn' ha' hs' hoA hoB HCA HCD HGG
    go_upto_region 6 with fail
    obtain ⟨Z, hZ⟩ : ∃ x, PB.alloc (planB (qA.moved u1 v1 u2 v2 u3 v3)) = x := ⟨_, rfl⟩
    have hb : Below PB.heap.size PB Z := by rw [← hZ]; exact below_new _ _
    have HR2 : Hid (Z.heap[PB.heap.size]? = some (planB (qA.moved u1 v1 u2 v2 u3 v3))) := Lib.hid (by rw [← hZ]; exact heap_top _ _ rfl)
    have HRZ := Lib.hid (heap_lft HRB.out hb)
    have HWA2 := Lib.hid (HWA.out.below hb)
    have HWB2 := Lib.hid (HWB.out.below hb)
    have HXZ := Lib.hid (heap_lft HXB.out hb)
    have HYZ := Lib.hid (heap_lft HYB.out hb)
    have HPZ := Lib.hid (HPB.out.below hb)
    have HXXZ := Lib.hid (HXXB.out.below hb)
    have HFFZ := Lib.hid (HFFB.out.below hb)
    have HLLZ := Lib.hid (HLLB.out.below hb)
    have HBZ := Lib.hid (below_thn HBB.out hb)
    have HOZ := Lib.hid (HOB.out.below hb)
    have HLZ := Lib.hid (below_thn HLB.out hb)
    have HROWZ : Hid (RowOk Z V.heap.size PA.heap.size 1 qA.ta qA.tn ∧ RowOk Z V.heap.size PA.heap.size 2 qA.aa qA.an ∧ RowOk Z V.heap.size PA.heap.size 4 qA.sa qA.sn) := Lib.hid ⟨HROW.out.1.below hb, HROW.out.2.1.below hb, HROW.out.2.2.below hb⟩
    try rw [hZ]
    clear hZ hb
    have x0 := heap_cell HRZ.out (j := 0) rfl
    have x1 := heap_cell HRZ.out (j := 1) rfl
    have x2 := heap_cell HRZ.out (j := 2) rfl
    have x3 := heap_cell HRZ.out (j := 3) rfl
    have x4 := heap_cell HRZ.out (j := 4) rfl
    have x5 := heap_cell HRZ.out (j := 5) rfl
    have x6 := heap_cell HRZ.out (j := 6) rfl
    have y0 := heap_cell HR2.out (j := 0) rfl
    have y1 := heap_cell HR2.out (j := 1) rfl
    have y2 := heap_cell HR2.out (j := 2) rfl
    have y3 := heap_cell HR2.out (j := 3) rfl
    have y4 := heap_cell HR2.out (j := 4) rfl
    have y5 := heap_cell HR2.out (j := 5) rfl
    have y6 := heap_cell HR2.out (j := 6) rfl
    go_wp2_with fail
    refine (same_true qA u1 v1 u2 v2 u3 v3 GA AA SA HNA.out.1 HNA.out.2.1 HNA.out.2.2 _ HWA2.out.at HWB2.out.at).mono ?_
    rintro e Y ⟨rfl, hb⟩
    have HRY := Lib.hid (heap_lft HRZ.out hb)
    have HXY := Lib.hid (heap_lft HXZ.out hb)
    have HYY := Lib.hid (heap_lft HYZ.out hb)
    have HPY := Lib.hid (HPZ.out.below hb)
    have HXXY := Lib.hid (HXXZ.out.below hb)
    have HFFY := Lib.hid (HFFZ.out.below hb)
    have HLLY := Lib.hid (HLLZ.out.below hb)
    have HBY := Lib.hid (below_thn HBZ.out hb)
    have HOY := Lib.hid (HOZ.out.below hb)
    have HLY := Lib.hid (below_thn HLZ.out hb)
    have HROWY : Hid (RowOk Y V.heap.size PA.heap.size 1 qA.ta qA.tn ∧ RowOk Y V.heap.size PA.heap.size 2 qA.aa qA.an ∧ RowOk Y V.heap.size PA.heap.size 4 qA.sa qA.sn) := Lib.hid ⟨HROWZ.out.1.below hb, HROWZ.out.2.1.below hb, HROWZ.out.2.2.below hb⟩
    clear hb x0 x1 x2 x3 x4 x5 x6 y0 y1 y2 y3 y4 y5 y6 HRZ HR2 HWA HWB HWA2 HWB2 HROWZ HROW
    obtain ⟨fr, ta, tn, tc, sd, ck, aa, an, ac, sa, sn, sc, bu⟩ := qA
    simp only [PlanX.moved] at HNA HROWY HRY ⊢
    have hn0 : (tn : Int) ≤ 40 := by have := HNA.out.1; omega
    have ha0 : (an : Int) ≤ 40 := by have := HNA.out.2.1; omega
    have hs0 : (sn : Int) ≤ 40 := by have := HNA.out.2.2; omega
    go_upto_region 7 with fail
    have x1 := heap_cell HRY.out (j := 1) rfl
    go_wp2_with fail
    go_loopw [20, 78] (fun _ i wr => ∃ k : Nat, k ≤ tn ∧ i = .int .i64 k ∧ wr.heap[PA.heap.size]? = some (planB ⟨fr, ta, tn, tc, sd, ck, aa, an, ac, sa, sn, sc, bu⟩) ∧ RowOk wr V.heap.size PA.heap.size 1 ta tn ∧ RowOk wr V.heap.size PA.heap.size 2 aa an ∧ RowOk wr V.heap.size PA.heap.size 4 sa sn ∧ Below V.heap.size V wr) (fun _ i _ => tn - (intOf i).toNat)
    case atStart => exact ⟨0, Nat.zero_le _, rfl, HRY.out, HROWY.out.1, HROWY.out.2.1, HROWY.out.2.2, HLY.out⟩
    case round =>
      obtain ⟨k, hk, rfl, hx, r1, r2, r3, hb⟩ := hrel
      have HX1q := Lib.hid hx
      have R11 := Lib.hid r1
      have R21 := Lib.hid r2
      have R31 := Lib.hid r3
      have HL1q := Lib.hid hb
      clear hx r1 r2 r3 hb x1
      by_cases hk1 : k < tn
      · rcases R11.out with h0 | ⟨g, cur, t, h9, g1, g2, g3, g4⟩
        · exact absurd hk1 (by omega)
        · subst h9
          have n1 : (k : Int) < tn := by omega
          have y0 := heap_cell HX1q.out (j := 1) rfl
          obtain ⟨cv, hcv⟩ := cell_ex g3 (show k < cur.size by omega)
          have hfz := heap_frozen g3 (k)
          have hne : g ≠ PA.heap.size := by omega
          have G1 := Lib.hid g1
          have HNE := Lib.hid hne
          clear g1 g2 g3 g4 hne
          go_wp2_with fail
          go_roundw
          case rel => exact ⟨k + 1, by omega, by go_num, (Below.heap_setCell _ _ _ _ (by simpa using Ne.symm HNE.out)).trans HX1q.out, R11.out.set _ _ _, R21.out.set _ _ _, R31.out.set _ _ _, HL1q.out.setCell G1.out _⟩
          case measure => simp [intOf]; omega
      · obtain rfl : tn = k := by omega
        clear hk hk1
        have x5 := heap_cell HX1q.out (j := 5) rfl
        go_wp2_with fail
        go_loopw [21, 89] (fun _ i wr => ∃ k : Nat, k ≤ sn ∧ i = .int .i64 k ∧ wr.heap[PA.heap.size]? = some (planB ⟨fr, ta, tn, tc, sd, ck, aa, an, ac, sa, sn, sc, bu⟩) ∧ RowOk wr V.heap.size PA.heap.size 1 ta tn ∧ RowOk wr V.heap.size PA.heap.size 2 aa an ∧ RowOk wr V.heap.size PA.heap.size 4 sa sn ∧ Below V.heap.size V wr) (fun _ i _ => sn - (intOf i).toNat)
        case atStart => exact ⟨0, Nat.zero_le _, rfl, HX1q.out, R11.out, R21.out, R31.out, HL1q.out⟩
        case round =>
          obtain ⟨k, hk, rfl, hx, r1, r2, r3, hb⟩ := hrel
          have HX3q := Lib.hid hx
          have R13 := Lib.hid r1
          have R23 := Lib.hid r2
          have R33 := Lib.hid r3
          have HL3q := Lib.hid hb
          clear hx r1 r2 r3 hb x5
          by_cases hk1 : k < sn
          · rcases R33.out with h0 | ⟨g, cur, t, h9, g1, g2, g3, g4⟩
            · exact absurd hk1 (by omega)
            · subst h9
              have n1 : (k : Int) < sn := by omega
              have y0 := heap_cell HX3q.out (j := 5) rfl
              obtain ⟨cv, hcv⟩ := cell_ex g3 (show k * 4 + 2 < cur.size by omega)
              have hfz := heap_frozen g3 (k * 4 + 2)
              have hne : g ≠ PA.heap.size := by omega
              have G1 := Lib.hid g1
              have HNE := Lib.hid hne
              clear g1 g2 g3 g4 hne
              go_wp2_with fail
              go_roundw
              case rel => exact ⟨k + 1, by omega, by go_num, (Below.heap_setCell _ _ _ _ (by simpa using Ne.symm HNE.out)).trans HX3q.out, R13.out.set _ _ _, R23.out.set _ _ _, R33.out.set _ _ _, HL3q.out.setCell G1.out _⟩
              case measure => simp [intOf]; omega
          · obtain rfl : sn = k := by omega
            clear hk hk1
            have x4 := heap_cell HX3q.out (j := 4) rfl
            go_wp2_with fail
            go_loopw [22, 101] (fun _ i wr => ∃ k : Nat, k ≤ an ∧ i = .int .i64 k ∧ wr.heap[PA.heap.size]? = some (planB ⟨fr, ta, tn, tc, sd, ck, aa, an, ac, sa, sn, sc, bu⟩) ∧ RowOk wr V.heap.size PA.heap.size 1 ta tn ∧ RowOk wr V.heap.size PA.heap.size 2 aa an ∧ RowOk wr V.heap.size PA.heap.size 4 sa sn ∧ Below V.heap.size V wr) (fun _ i _ => an - (intOf i).toNat)
            case atStart => exact ⟨0, Nat.zero_le _, rfl, HX3q.out, R13.out, R23.out, R33.out, HL3q.out⟩
            case round =>
              obtain ⟨k, hk, rfl, hx, r1, r2, r3, hb⟩ := hrel
              have HX2q := Lib.hid hx
              have R12 := Lib.hid r1
              have R22 := Lib.hid r2
              have R32 := Lib.hid r3
              have HL2q := Lib.hid hb
              clear hx r1 r2 r3 hb x4
              by_cases hk1 : k < an
              · rcases R22.out with h0 | ⟨g, cur, t, h9, g1, g2, g3, g4⟩
                · exact absurd hk1 (by omega)
                · subst h9
                  have n1 : (k : Int) < an := by omega
                  have y0 := heap_cell HX2q.out (j := 4) rfl
                  obtain ⟨cv, hcv⟩ := cell_ex g3 (show k * 2 + 1 < cur.size by omega)
                  have hfz := heap_frozen g3 (k * 2 + 1)
                  have hne : g ≠ PA.heap.size := by omega
                  have G1 := Lib.hid g1
                  have HNE := Lib.hid hne
                  clear g1 g2 g3 g4 hne
                  go_wp2_with fail
                  go_roundw
                  case rel => exact ⟨k + 1, by omega, by go_num, (Below.heap_setCell _ _ _ _ (by simpa using Ne.symm HNE.out)).trans HX2q.out, R12.out.set _ _ _, R22.out.set _ _ _, R32.out.set _ _ _, HL2q.out.setCell G1.out _⟩
                  case measure => simp [intOf]; omega
              · obtain rfl : an = k := by omega
                clear hk hk1
                have HXE := Lib.hid (heap_lft HX3.out HL2q.out)
                have HYE := Lib.hid (heap_lft HY3.out HL2q.out)
                have HPE := Lib.hid (HP3.out.below HL2q.out)
                have HXXE := Lib.hid (HXX3.out.below HL2q.out)
                have HFFE := Lib.hid (HFF3.out.below HL2q.out)
                have HLLE := Lib.hid (HLL3.out.below HL2q.out)
                have HBE := Lib.hid (below_thn HB3.out HL2q.out)
                have HOE := Lib.hid (HO3.out.below HL2q.out)
                clear HX3 HY3 HP3 HXX3 HFF3 HLL3
                have x0 := heap_cell HXE.out (j := 0) rfl
                have x1 := heap_cell HXE.out (j := 1) rfl
                have x2 := heap_cell HXE.out (j := 2) rfl
                have x3 := heap_cell HXE.out (j := 3) rfl
                have x4 := heap_cell HXE.out (j := 4) rfl
                have x5 := heap_cell HXE.out (j := 5) rfl
                have x6 := heap_cell HXE.out (j := 6) rfl
                have g0 := heap_cell HOE.out.g (j := 0) rfl
                have g1 := heap_cell HOE.out.g (j := 1) rfl
                have g2 := heap_cell HOE.out.g (j := 2) rfl
                have g3 := heap_cell HOE.out.g (j := 3) rfl
                have g4 := heap_cell HOE.out.g (j := 4) rfl
                have g5 := heap_cell HOE.out.g (j := 5) rfl
                have g6 := heap_cell HOE.out.g (j := 6) rfl
                go_wp2_with fail
                refine (same_true (p.moved a1 k1 a2 k2 a3 k3) p.ta p.tc p.aa p.ac p.sa p.sc T A S (by have := HN.out; dsimp only; omega) (by have := HN.out; dsimp only; omega) (by have := HN.out; dsimp only; omega) _ HOE.out.c.at HPE.out).mono ?_
                rintro e E1 ⟨rfl, hb⟩
                clear x0 x1 x2 x3 x4 x5 x6 g0 g1 g2 g3 g4 g5 g6
                have HXF := Lib.hid (heap_lft HXE.out hb)
                have HYF := Lib.hid (heap_lft HYE.out hb)
                have HPF := Lib.hid (HPE.out.below hb)
                have HXXF := Lib.hid (HXXE.out.below hb)
                have HFFF := Lib.hid (HFFE.out.below hb)
                have HLLF := Lib.hid (HLLE.out.below hb)
                have HBF := Lib.hid (below_thn HBE.out hb)
                have HOF := Lib.hid (HOE.out.below hb)
                clear hb
                go_wp2_with fail
                refine (sameInts_any bb wa m bk wk X (by have := HM.out; omega) _ (by simpa using HOF.out.b.nums) HXXF.out).mono ?_
                rintro e E2 ⟨rfl, hb⟩
                have HXG := Lib.hid (heap_lft HXF.out hb)
                have HYG := Lib.hid (heap_lft HYF.out hb)
                have HPG := Lib.hid (HPF.out.below hb)
                have HXXG := Lib.hid (HXXF.out.below hb)
                have HFFG := Lib.hid (HFFF.out.below hb)
                have HLLG := Lib.hid (HLLF.out.below hb)
                have HBG := Lib.hid (below_thn HBF.out hb)
                have HOG := Lib.hid (HOF.out.below hb)
                clear hb
                have y0 := heap_cell HYG.out (j := 0) rfl
                have h0 := heap_cell HOG.out.h (j := 0) rfl
                go_wp2_with fail
                refine (sameWheels_any dd a n dk c F HS.out.1 _ (by simpa using HOG.out.d.nums) HFFG.out).mono ?_
                rintro e E3 ⟨rfl, hb⟩
                clear y0 h0
                have HXH := Lib.hid (heap_lft HXG.out hb)
                have HYH := Lib.hid (heap_lft HYG.out hb)
                have HPH := Lib.hid (HPG.out.below hb)
                have HXXH := Lib.hid (HXXG.out.below hb)
                have HFFH := Lib.hid (HFFG.out.below hb)
                have HLLH := Lib.hid (HLLG.out.below hb)
                have HBH := Lib.hid (below_thn HBG.out hb)
                have HOH := Lib.hid (HOG.out.below hb)
                clear hb
                go_wp2_with fail
                refine (sameTrains_any ee la ln ek lc L (by have := HS.out; omega) _ HOH.out.e.nums HLLH.out).mono ?_
                rintro e E4 ⟨rfl, hb⟩
                have HBI := Lib.hid (below_thn HBH.out hb)
                clear hb
                go_wp2_with fail
                go_ret
                exact ⟨rfl, HBI.out⟩

end Go.Proofs.Ytacdbjandcdejaa
