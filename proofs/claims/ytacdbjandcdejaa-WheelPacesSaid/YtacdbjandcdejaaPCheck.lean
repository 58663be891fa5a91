/-
  The contracts of Check, and of what a plan is asked about its arrivals and sales.
-/
import Derived.Test.YtacdbjandcdejaaPFit
namespace Go.Proofs.Ytacdbjandcdejaa
open Go.RowKit

set_option maxHeartbeats 2000000 in
set_option maxRecDepth 100000 in
/-- The closure that finds a wrong sale. -/
theorem saleWrong_any (p : PlanX) (B : Nat) (i s l d : Int) (h0 : 0 ≤ p.fr) (h1 : p.fr ≤ 3652) (hn : p.tn ≤ 40) (w : World) (hB : w.heap[B]? = some (planB p)) :
    Calls Try.prog 65 #[saleV i s l d, .pointer (some ⟨B, 0, none⟩)] w fun e w' => e = .returned (.bool (Pure.wrongS p i s l d)) ∧ Below w.heap.size w w' := by
  unfold Pure.wrongS
  obtain ⟨r1, hr1⟩ : ∃ r, decide (1 ≤ i ∧ i ≤ 9999) = r := ⟨_, rfl⟩
  obtain ⟨r2, hr2⟩ : ∃ r, decide (1 ≤ s ∧ s ≤ 2) = r := ⟨_, rfl⟩
  obtain ⟨r3, hr3⟩ : ∃ r, decide (1 ≤ l ∧ l ≤ 6) = r := ⟨_, rfl⟩
  obtain ⟨r4, hr4⟩ : ∃ r, Pure.isDay p d = r := ⟨_, rfl⟩
  rw [hr1, hr2, hr3, hr4]
  have HR1 := Lib.hid hr1
  have HR2 := Lib.hid hr2
  have HR3 := Lib.hid hr3
  have HR4 := Lib.hid hr4
  clear hr1 hr2 hr3 hr4
  have HBX := Lib.hid hB
  have hlt : B < w.heap.size := (Array.getElem?_eq_some_iff.1 hB).1
  clear hB
  go_enter Try.func65, Try.ntmps65
  go_wp2_with fail
  refine (within1 1 9999 i _ _ _ (first_cell _ _ _ (by simp)) r1 HR1.out).mono ?_
  rintro e w' ⟨rfl, rfl⟩
  cases r1
  · go_wp2_with fail
    go_ret
    exact ⟨rfl, by repeat (first | exact Below.refl _ _ | refine Below.alloc ?_ (by simp; try omega) _)⟩
  · go_wp2_with fail
    refine (within1 1 2 s _ _ _ (first_cell _ _ _ (by simp)) r2 HR2.out).mono ?_
    rintro e w' ⟨rfl, rfl⟩
    cases r2
    · go_wp2_with fail
      go_ret
      exact ⟨rfl, by repeat (first | exact Below.refl _ _ | refine Below.alloc ?_ (by simp; try omega) _)⟩
    · go_wp2_with fail
      refine (within1 1 6 l _ _ _ (first_cell _ _ _ (by simp)) r3 HR3.out).mono ?_
      rintro e w' ⟨rfl, rfl⟩
      cases r3
      · go_wp2_with fail
        go_ret
        exact ⟨rfl, by repeat (first | exact Below.refl _ _ | refine Below.alloc ?_ (by simp; try omega) _)⟩
      · obtain ⟨W, hW⟩ : ∃ W, (((((((w.alloc (saleB i s l d)).alloc (.cells #[.int .i64 i] 3)).alloc (spanB 1 9999)).alloc (.cells #[.int .i64 s] 3)).alloc (spanB 1 2)).alloc (.cells #[.int .i64 l] 3)).alloc (spanB 1 6)) = W := ⟨_, rfl⟩
        have HBW : Hid (Below w.heap.size w W) := Lib.hid (by rw [← hW]; repeat (first | exact Below.refl _ _ | refine Below.alloc ?_ (by simp; try omega) _))
        have HSW : Hid (W.heap[w.heap.size]? = some (saleB i s l d)) := Lib.hid (by rw [← hW]; repeat (first | exact heap_top _ _ rfl | refine heap_up ?_ _))
        rw [hW]
        clear hW
        have hx := heap_lft HBX.out HBW.out
        have s3 := heap_cell HSW.out (j := 3) rfl
        have k0 := heap_cell hx (j := 0) rfl
        have k1 := heap_cell hx (j := 1) rfl
        have k2 := heap_cell hx (j := 2) rfl
        have k3 := heap_cell hx (j := 3) rfl
        have k4 := heap_cell hx (j := 4) rfl
        have k5 := heap_cell hx (j := 5) rfl
        have k6 := heap_cell hx (j := 6) rfl
        clear hx
        go_wp2_with fail
        refine (isDayE p d h0 h1 hn HR4 _).mono ?_
        rintro e w' ⟨rfl, hb⟩
        have HB9 := Lib.hid (below_thn HBW.out hb)
        clear hb s3 k0 k1 k2 k3 k4 k5 k6
        cases r4
        · go_wp2_with fail
          go_ret
          exact ⟨rfl, HB9.out⟩
        · go_wp2_with fail
          go_ret
          exact ⟨rfl, HB9.out⟩

set_option maxHeartbeats 2000000 in
set_option maxRecDepth 100000 in
theorem arrivalsFit_any (p : PlanX) (F : Nat → Int) (h0 : 0 ≤ p.fr) (h1 : p.fr ≤ 3652) (hn : p.tn ≤ 40) (hl : p.an ≤ 40) (w : World) (h : NumsAt w p.aa (p.an * 2) F) : Calls Try.prog 46 #[planV p] w fun e w' => e = .returned (.bool (Pure.arrs p F)) ∧ Below w.heap.size w w' := by
  have HN := Lib.hid h
  clear h
  unfold Pure.arrs
  obtain ⟨r2, hr2⟩ : ∃ r, (List.range p.an).any (fun j => Pure.wrongA p (F (j * 2)) (F (j * 2 + 1))) = r := ⟨_, rfl⟩
  obtain ⟨r3, hr3⟩ : ∃ r, Pure.inOrder (fun j => decide (F (j * 2) ≤ F ((j + 1) * 2))) p.an = r := ⟨_, rfl⟩
  rw [hr2, hr3]
  have HR2 := Lib.hid hr2
  have HR3 := Lib.hid hr3
  clear hr2 hr3
  go_enter Try.func46, Try.ntmps46
  by_cases hm : (p.an : Int) ≤ 6
  · go_upto_region 2 with fail
    obtain ⟨W, hW⟩ : ∃ W, w.alloc (planB p) = W := ⟨_, rfl⟩
    have HB1 : Hid (Below w.heap.size w W) := Lib.hid (by rw [← hW]; exact below_new _ _)
    have HX1 : Hid (W.heap[w.heap.size]? = some (planB p)) := Lib.hid (by rw [← hW]; exact heap_top _ _ rfl)
    rw [hW]
    clear hW
    have k4 := heap_cell HX1.out (j := 4) rfl
    go_wp2_with fail
    refine (containsArr_any w.heap.size p.aa p.an p.ac F (fun j => Pure.wrongA p (F (j * 2)) (F (j * 2 + 1))) hl W (HN.out.below HB1.out) (fun u j hj hb => arrWrong_any p w.heap.size (F (j * 2)) (F (j * 2 + 1)) h0 h1 hn u (heap_lft HX1.out hb))).mono ?_
    rintro e w2 ⟨rfl, hb⟩
    rw [HR2.out]
    have HB2 := Lib.hid (below_thn HB1.out hb)
    have HX2 := Lib.hid (heap_lft HX1.out hb)
    clear k4 hb
    have k4 := heap_cell HX2.out (j := 4) rfl
    cases r2
    · go_wp2_with fail
      refine (inOrderArr_any p.aa p.an p.ac F (fun j => decide (F (j * 2) ≤ F ((j + 1) * 2))) hl w2 (HN.out.below HB2.out) (fun u j hj hb => arrOrder_any _ _ _ _ u)).mono ?_
      rintro e w3 ⟨rfl, hb⟩
      rw [HR3.out]
      have HB3 := Lib.hid (below_thn HB2.out hb)
      clear k4 hb
      go_wp2_with fail
      go_ret
      exact ⟨ret_bool (by simp [hm]), HB3.out⟩
    · go_wp2_with fail
      go_ret
      exact ⟨ret_bool (by simp), HB2.out⟩
  · go_wp2_with fail
    go_ret
    exact ⟨ret_bool (by rw [decide_eq_false (show ¬ (p.an : Int) ≤ 6 by omega)]; rfl), below_new _ _⟩

set_option maxHeartbeats 2000000 in
set_option maxRecDepth 100000 in
theorem salesFit_any (p : PlanX) (F : Nat → Int) (h0 : 0 ≤ p.fr) (h1 : p.fr ≤ 3652) (hn : p.tn ≤ 40) (hl : p.sn ≤ 40) (w : World) (h : NumsAt w p.sa (p.sn * 4) F) : Calls Try.prog 47 #[planV p] w fun e w' => e = .returned (.bool (Pure.sales p F)) ∧ Below w.heap.size w w' := by
  have HN := Lib.hid h
  clear h
  unfold Pure.sales
  obtain ⟨r2, hr2⟩ : ∃ r, (List.range p.sn).any (fun j => Pure.wrongS p (F (j * 4)) (F (j * 4 + 1)) (F (j * 4 + 2)) (F (j * 4 + 3))) = r := ⟨_, rfl⟩
  obtain ⟨r3, hr3⟩ : ∃ r, Pure.inOrder (fun j => decide (F (j * 4) < F ((j + 1) * 4))) p.sn = r := ⟨_, rfl⟩
  rw [hr2, hr3]
  have HR2 := Lib.hid hr2
  have HR3 := Lib.hid hr3
  clear hr2 hr3
  go_enter Try.func47, Try.ntmps47
  by_cases hm : (p.sn : Int) ≤ 8
  · go_upto_region 2 with fail
    obtain ⟨W, hW⟩ : ∃ W, w.alloc (planB p) = W := ⟨_, rfl⟩
    have HB1 : Hid (Below w.heap.size w W) := Lib.hid (by rw [← hW]; exact below_new _ _)
    have HX1 : Hid (W.heap[w.heap.size]? = some (planB p)) := Lib.hid (by rw [← hW]; exact heap_top _ _ rfl)
    rw [hW]
    clear hW
    have k4 := heap_cell HX1.out (j := 5) rfl
    go_wp2_with fail
    refine (containsSale_any w.heap.size p.sa p.sn p.sc F (fun j => Pure.wrongS p (F (j * 4)) (F (j * 4 + 1)) (F (j * 4 + 2)) (F (j * 4 + 3))) hl W (HN.out.below HB1.out) (fun u j hj hb => saleWrong_any p w.heap.size (F (j * 4)) (F (j * 4 + 1)) (F (j * 4 + 2)) (F (j * 4 + 3)) h0 h1 hn u (heap_lft HX1.out hb))).mono ?_
    rintro e w2 ⟨rfl, hb⟩
    rw [HR2.out]
    have HB2 := Lib.hid (below_thn HB1.out hb)
    have HX2 := Lib.hid (heap_lft HX1.out hb)
    clear k4 hb
    have k4 := heap_cell HX2.out (j := 5) rfl
    cases r2
    · go_wp2_with fail
      refine (inOrderSale_any p.sa p.sn p.sc F (fun j => decide (F (j * 4) < F ((j + 1) * 4))) hl w2 (HN.out.below HB2.out) (fun u j hj hb => saleOrder_any _ _ _ _ _ _ _ _ u)).mono ?_
      rintro e w3 ⟨rfl, hb⟩
      rw [HR3.out]
      have HB3 := Lib.hid (below_thn HB2.out hb)
      clear k4 hb
      go_wp2_with fail
      go_ret
      exact ⟨ret_bool (by simp [hm]), HB3.out⟩
    · go_wp2_with fail
      go_ret
      exact ⟨ret_bool (by simp), HB2.out⟩
  · go_wp2_with fail
    go_ret
    exact ⟨ret_bool (by rw [decide_eq_false (show ¬ (p.sn : Int) ≤ 8 by omega)]; rfl), below_new _ _⟩

abbrev questionsV : Value := .agg #[.func (.func 43) #[] #[], .func (.func 44) #[] #[], .func (.func 45) #[] #[], .func (.func 46) #[] #[], .func (.func 47) #[] #[]]
theorem qIdx0 (w : World) : (Instr.index 66 questionsV (.int .i64 0)).run Try.prog w = .ok (.agg #[.func (.func 43) #[] #[]]) w := by kernel_rfl
theorem qIdx1 (w : World) : (Instr.index 66 questionsV (.int .i64 1)).run Try.prog w = .ok (.agg #[.func (.func 44) #[] #[]]) w := by kernel_rfl
theorem qIdx2 (w : World) : (Instr.index 66 questionsV (.int .i64 2)).run Try.prog w = .ok (.agg #[.func (.func 45) #[] #[]]) w := by kernel_rfl
theorem qIdx3 (w : World) : (Instr.index 66 questionsV (.int .i64 3)).run Try.prog w = .ok (.agg #[.func (.func 46) #[] #[]]) w := by kernel_rfl
theorem qIdx4 (w : World) : (Instr.index 66 questionsV (.int .i64 4)).run Try.prog w = .ok (.agg #[.func (.func 47) #[] #[]]) w := by kernel_rfl
theorem questions_any (w : World) : Calls Try.prog 24 #[] w fun e w' => e = .returned questionsV ∧ Below w.heap.size w w' := by
  go_enter Try.func24, Try.ntmps24
  go_wp2_with fail
  refine bodyPost_ret (v := questionsV) (by simp [results, Try.results24, go_sem]) rfl ⟨rfl, ?_⟩
  repeat (first | exact Below.refl _ _ | refine Below.setCell ?_ (by simp) _ | refine Below.alloc ?_ (by simp; try omega) _)

namespace Pure
def plan (p : PlanX) (T A S : Nat → Int) : Bool := days p && turns p T && stock p && arrs p A && sales p S
end Pure
/-- The numbers of a plan in memory. -/
structure PlanAt (w : World) (p : PlanX) (T A S : Nat → Int) : Prop where
  t : NumsAt w p.ta p.tn T
  a : NumsAt w p.aa (p.an * 2) A
  s : NumsAt w p.sa (p.sn * 4) S
theorem PlanAt.below {w w' : World} {p : PlanX} {T A S : Nat → Int} (h : PlanAt w p T A S) (hb : Below w.heap.size w w') : PlanAt w' p T A S := ⟨h.t.below hb, h.a.below hb, h.s.below hb⟩

set_option maxHeartbeats 4000000 in
set_option maxRecDepth 100000 in
/-- **Check**. -/
theorem check_any (p : PlanX) (T A S : Nat → Int) (hn : p.tn ≤ 40) (ha : p.an ≤ 40) (hs : p.sn ≤ 40) (w : World) (h : PlanAt w p T A S) :
    Calls Try.prog 14 #[planV p] w fun e w' => e = .returned (.int .i64 (Pure.err (Pure.plan p T A S) 40)) ∧ Below w.heap.size w w' := by
  have HP := Lib.hid h
  clear h
  go_enter Try.func14, Try.ntmps14
  go_wp2_with fail
  refine (questions_any _).mono ?_
  rintro e W ⟨rfl, hb⟩
  have HB := Lib.hid ((below_new w (planB p)).trans (hb.mono (by simp)))
  have HX := Lib.hid (heap_lft (heap_top w (planB p) rfl) hb)
  clear hb
  go_wp2_with fail
  go_loopw [4, 6] (fun _ i wr => ∃ k : Nat, k ≤ 5 ∧ i = .int .i64 k ∧ (1 ≤ k → Pure.days p = true) ∧ (2 ≤ k → Pure.turns p T = true) ∧ (3 ≤ k → Pure.stock p = true) ∧ (4 ≤ k → Pure.arrs p A = true) ∧ (5 ≤ k → Pure.sales p S = true) ∧ Below W.heap.size W wr) (fun _ i _ => 5 - (intOf i).toNat)
  case atStart => exact ⟨0, by omega, rfl, by omega, by omega, by omega, by omega, by omega, Below.refl _ _⟩
  case round =>
    obtain ⟨k, hk, rfl, q1, q2, q3, q4, q5, hb⟩ := hrel
    have HQ := Lib.hid (And.intro q1 (And.intro q2 (And.intro q3 (And.intro q4 q5))))
    have HX2 := Lib.hid (heap_lft HX.out hb)
    have HBk := Lib.hid hb
    have hbl : ∀ W', Below W.heap.size W W' → Below w.heap.size w W' := fun W' g => below_thn HB.out g
    have HBL := Lib.hid hbl
    clear q1 q2 q3 q4 q5 hb hbl
    have hs1 : w.heap.size < wr.heap.size := (Array.getElem?_eq_some_iff.1 HX2.out).1
    have hk5 : k = 0 ∨ k = 1 ∨ k = 2 ∨ k = 3 ∨ k = 4 ∨ k = 5 := by omega
    rcases hk5 with rfl | rfl | rfl | rfl | rfl | rfl
    · obtain ⟨r, hr⟩ : ∃ r, Pure.days p = r := ⟨_, rfl⟩
      have HR := Lib.hid hr
      clear hr
      obtain ⟨U, hU⟩ : ∃ U, wr.alloc (.cells #[.func (.func 43) #[] #[]] 65) = U := ⟨_, rfl⟩
      have HBU0 : Hid (Below W.heap.size W U) := Lib.hid (by rw [← hU]; exact below_thn HBk.out (below_new _ _))
      have HXU : Hid (U.heap[w.heap.size]? = some (planB p)) := Lib.hid (by rw [← hU]; exact heap_up HX2.out _)
      have HF : Hid (U.heap[wr.heap.size]? = some (.cells #[.func (.func 43) #[] #[]] 65)) := Lib.hid (by rw [← hU]; exact heap_top _ _ rfl)
      have HBU := Lib.hid (HBL.out _ HBU0.out)
      have k0 := heap_cell HXU.out (j := 0) rfl
      have k1 := heap_cell HXU.out (j := 1) rfl
      have k2 := heap_cell HXU.out (j := 2) rfl
      have k3 := heap_cell HXU.out (j := 3) rfl
      have k4 := heap_cell HXU.out (j := 4) rfl
      have k5 := heap_cell HXU.out (j := 5) rfl
      have k6 := heap_cell HXU.out (j := 6) rfl
      have kf := heap_cell HF.out (j := 0) rfl
      have hidx := qIdx0 wr
      go_upto_region 4 with fail
      try rw [hU]
      clear hU
      go_wp2_with fail
      refine (fewDays_any p hn _).mono ?_
      rintro e u ⟨rfl, hb⟩
      rw [HR.out]
      have HB9 := Lib.hid (below_thn HBU0.out hb)
      clear hb kf k0 k1 k2 k3 k4 k5 k6
      cases r
      · go_wp2_with fail
        go_ret
        exact ⟨ret_int (by simp [Pure.err, Pure.plan, HR.out]), HBL.out _ HB9.out⟩
      · go_wp2_with fail
        go_roundw
        case rel => exact ⟨1, by omega, rfl, fun _ => HR.out, fun g => absurd g (by omega), fun g => absurd g (by omega), fun g => absurd g (by omega), fun g => absurd g (by omega), HB9.out⟩
        case measure => simp [intOf]
    · obtain ⟨r, hr⟩ : ∃ r, Pure.turns p T = r := ⟨_, rfl⟩
      have HR := Lib.hid hr
      clear hr
      obtain ⟨U, hU⟩ : ∃ U, wr.alloc (.cells #[.func (.func 44) #[] #[]] 65) = U := ⟨_, rfl⟩
      have HBU0 : Hid (Below W.heap.size W U) := Lib.hid (by rw [← hU]; exact below_thn HBk.out (below_new _ _))
      have HXU : Hid (U.heap[w.heap.size]? = some (planB p)) := Lib.hid (by rw [← hU]; exact heap_up HX2.out _)
      have HF : Hid (U.heap[wr.heap.size]? = some (.cells #[.func (.func 44) #[] #[]] 65)) := Lib.hid (by rw [← hU]; exact heap_top _ _ rfl)
      have HBU := Lib.hid (HBL.out _ HBU0.out)
      have k0 := heap_cell HXU.out (j := 0) rfl
      have k1 := heap_cell HXU.out (j := 1) rfl
      have k2 := heap_cell HXU.out (j := 2) rfl
      have k3 := heap_cell HXU.out (j := 3) rfl
      have k4 := heap_cell HXU.out (j := 4) rfl
      have k5 := heap_cell HXU.out (j := 5) rfl
      have k6 := heap_cell HXU.out (j := 6) rfl
      have kf := heap_cell HF.out (j := 0) rfl
      have hidx := qIdx1 wr
      go_upto_region 4 with fail
      try rw [hU]
      clear hU
      go_wp2_with fail
      refine (fewTurns_any p T hn _ (HP.out.below (HBU.out)).t).mono ?_
      rintro e u ⟨rfl, hb⟩
      rw [HR.out]
      have HB9 := Lib.hid (below_thn HBU0.out hb)
      clear hb kf k0 k1 k2 k3 k4 k5 k6
      cases r
      · go_wp2_with fail
        go_ret
        exact ⟨ret_int (by simp [Pure.err, Pure.plan, HR.out]), HBL.out _ HB9.out⟩
      · go_wp2_with fail
        go_roundw
        case rel => exact ⟨2, by omega, rfl, fun _ => HQ.out.1 (by omega), fun _ => HR.out, fun g => absurd g (by omega), fun g => absurd g (by omega), fun g => absurd g (by omega), HB9.out⟩
        case measure => simp [intOf]
    · obtain ⟨r, hr⟩ : ∃ r, Pure.stock p = r := ⟨_, rfl⟩
      have HR := Lib.hid hr
      clear hr
      obtain ⟨U, hU⟩ : ∃ U, wr.alloc (.cells #[.func (.func 45) #[] #[]] 65) = U := ⟨_, rfl⟩
      have HBU0 : Hid (Below W.heap.size W U) := Lib.hid (by rw [← hU]; exact below_thn HBk.out (below_new _ _))
      have HXU : Hid (U.heap[w.heap.size]? = some (planB p)) := Lib.hid (by rw [← hU]; exact heap_up HX2.out _)
      have HF : Hid (U.heap[wr.heap.size]? = some (.cells #[.func (.func 45) #[] #[]] 65)) := Lib.hid (by rw [← hU]; exact heap_top _ _ rfl)
      have HBU := Lib.hid (HBL.out _ HBU0.out)
      have k0 := heap_cell HXU.out (j := 0) rfl
      have k1 := heap_cell HXU.out (j := 1) rfl
      have k2 := heap_cell HXU.out (j := 2) rfl
      have k3 := heap_cell HXU.out (j := 3) rfl
      have k4 := heap_cell HXU.out (j := 4) rfl
      have k5 := heap_cell HXU.out (j := 5) rfl
      have k6 := heap_cell HXU.out (j := 6) rfl
      have kf := heap_cell HF.out (j := 0) rfl
      have hidx := qIdx2 wr
      go_upto_region 4 with fail
      try rw [hU]
      clear hU
      go_wp2_with fail
      refine (inStock_any p _).mono ?_
      rintro e u ⟨rfl, hb⟩
      rw [HR.out]
      have HB9 := Lib.hid (below_thn HBU0.out hb)
      clear hb kf k0 k1 k2 k3 k4 k5 k6
      cases r
      · go_wp2_with fail
        go_ret
        exact ⟨ret_int (by simp [Pure.err, Pure.plan, HR.out]), HBL.out _ HB9.out⟩
      · go_wp2_with fail
        go_roundw
        case rel => exact ⟨3, by omega, rfl, fun _ => HQ.out.1 (by omega), fun _ => HQ.out.2.1 (by omega), fun _ => HR.out, fun g => absurd g (by omega), fun g => absurd g (by omega), HB9.out⟩
        case measure => simp [intOf]
    · have hd := Pure.days_span (HQ.out.1 (by omega))
      obtain ⟨r, hr⟩ : ∃ r, Pure.arrs p A = r := ⟨_, rfl⟩
      have HR := Lib.hid hr
      clear hr
      obtain ⟨U, hU⟩ : ∃ U, wr.alloc (.cells #[.func (.func 46) #[] #[]] 65) = U := ⟨_, rfl⟩
      have HBU0 : Hid (Below W.heap.size W U) := Lib.hid (by rw [← hU]; exact below_thn HBk.out (below_new _ _))
      have HXU : Hid (U.heap[w.heap.size]? = some (planB p)) := Lib.hid (by rw [← hU]; exact heap_up HX2.out _)
      have HF : Hid (U.heap[wr.heap.size]? = some (.cells #[.func (.func 46) #[] #[]] 65)) := Lib.hid (by rw [← hU]; exact heap_top _ _ rfl)
      have HBU := Lib.hid (HBL.out _ HBU0.out)
      have k0 := heap_cell HXU.out (j := 0) rfl
      have k1 := heap_cell HXU.out (j := 1) rfl
      have k2 := heap_cell HXU.out (j := 2) rfl
      have k3 := heap_cell HXU.out (j := 3) rfl
      have k4 := heap_cell HXU.out (j := 4) rfl
      have k5 := heap_cell HXU.out (j := 5) rfl
      have k6 := heap_cell HXU.out (j := 6) rfl
      have kf := heap_cell HF.out (j := 0) rfl
      have hidx := qIdx3 wr
      go_upto_region 4 with fail
      try rw [hU]
      clear hU
      go_wp2_with fail
      refine (arrivalsFit_any p A hd.2.2.1 hd.2.2.2 hn ha _ (HP.out.below (HBU.out)).a).mono ?_
      rintro e u ⟨rfl, hb⟩
      rw [HR.out]
      have HB9 := Lib.hid (below_thn HBU0.out hb)
      clear hb kf k0 k1 k2 k3 k4 k5 k6
      cases r
      · go_wp2_with fail
        go_ret
        exact ⟨ret_int (by simp [Pure.err, Pure.plan, HR.out]), HBL.out _ HB9.out⟩
      · go_wp2_with fail
        go_roundw
        case rel => exact ⟨4, by omega, rfl, fun _ => HQ.out.1 (by omega), fun _ => HQ.out.2.1 (by omega), fun _ => HQ.out.2.2.1 (by omega), fun _ => HR.out, fun g => absurd g (by omega), HB9.out⟩
        case measure => simp [intOf]
    · have hd := Pure.days_span (HQ.out.1 (by omega))
      obtain ⟨r, hr⟩ : ∃ r, Pure.sales p S = r := ⟨_, rfl⟩
      have HR := Lib.hid hr
      clear hr
      obtain ⟨U, hU⟩ : ∃ U, wr.alloc (.cells #[.func (.func 47) #[] #[]] 65) = U := ⟨_, rfl⟩
      have HBU0 : Hid (Below W.heap.size W U) := Lib.hid (by rw [← hU]; exact below_thn HBk.out (below_new _ _))
      have HXU : Hid (U.heap[w.heap.size]? = some (planB p)) := Lib.hid (by rw [← hU]; exact heap_up HX2.out _)
      have HF : Hid (U.heap[wr.heap.size]? = some (.cells #[.func (.func 47) #[] #[]] 65)) := Lib.hid (by rw [← hU]; exact heap_top _ _ rfl)
      have HBU := Lib.hid (HBL.out _ HBU0.out)
      have k0 := heap_cell HXU.out (j := 0) rfl
      have k1 := heap_cell HXU.out (j := 1) rfl
      have k2 := heap_cell HXU.out (j := 2) rfl
      have k3 := heap_cell HXU.out (j := 3) rfl
      have k4 := heap_cell HXU.out (j := 4) rfl
      have k5 := heap_cell HXU.out (j := 5) rfl
      have k6 := heap_cell HXU.out (j := 6) rfl
      have kf := heap_cell HF.out (j := 0) rfl
      have hidx := qIdx4 wr
      go_upto_region 4 with fail
      try rw [hU]
      clear hU
      go_wp2_with fail
      refine (salesFit_any p S hd.2.2.1 hd.2.2.2 hn hs _ (HP.out.below (HBU.out)).s).mono ?_
      rintro e u ⟨rfl, hb⟩
      rw [HR.out]
      have HB9 := Lib.hid (below_thn HBU0.out hb)
      clear hb kf k0 k1 k2 k3 k4 k5 k6
      cases r
      · go_wp2_with fail
        go_ret
        exact ⟨ret_int (by simp [Pure.err, Pure.plan, HR.out]), HBL.out _ HB9.out⟩
      · go_wp2_with fail
        go_roundw
        case rel => exact ⟨5, by omega, rfl, fun _ => HQ.out.1 (by omega), fun _ => HQ.out.2.1 (by omega), fun _ => HQ.out.2.2.1 (by omega), fun _ => HQ.out.2.2.2.1 (by omega), fun _ => HR.out, HB9.out⟩
        case measure => simp [intOf]
    · go_wp2_with fail
      go_ret
      exact ⟨ret_int (by simp [Pure.err, Pure.plan, HQ.out.1 (by omega), HQ.out.2.1 (by omega), HQ.out.2.2.1 (by omega), HQ.out.2.2.2.1 (by omega), HQ.out.2.2.2.2 (by omega)]), HBL.out _ HBk.out⟩

end Go.Proofs.Ytacdbjandcdejaa
