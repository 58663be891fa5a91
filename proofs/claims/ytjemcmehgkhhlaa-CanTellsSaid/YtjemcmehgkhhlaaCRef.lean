/-
  The contracts of the specification's own within, Great, SameInts, Same, SamePourings, Cans, Check and Pouring.
-/
import Derived.Test.YtjemcmehgkhhlaaCTwin
namespace Go.Proofs.Ytjemcmehgkhhlaa
open Go.RowKit

theorem rWithinE (n lo hi : Int) (r : Bool) (hr : decide (lo ≤ n ∧ n ≤ hi) = r) (w : World) : Calls Try.prog 25 #[.int .i64 n, .int .i64 lo, .int .i64 hi] w fun e w' => e = .returned (.bool r) ∧ w = w' := by
  subst hr
  go_enter Try.func25, Try.ntmps25
  by_cases h : lo ≤ n
  · go_wp2_with fail
    go_ret
    exact ⟨ret_bool (by simp [h]), rfl⟩
  · go_wp2_with fail
    go_ret
    exact ⟨ret_bool (by simp; omega), rfl⟩
theorem great_any (a : Option Addr) (n c : Nat) (b : Option Addr) (m d : Nat) (k : Int) (w : World) : Calls Try.prog 4 #[cansV a n c b m d k] w fun e w' => e = .returned (.bool (decide (10 < (n : Int)) || decide (10 < (m : Int)))) ∧ Below w.heap.size w w' := by
  go_enter Try.func4, Try.ntmps4
  by_cases h1 : 10 < (n : Int)
  · go_wp2_with fail
    go_ret
    exact ⟨ret_bool (by simp [h1]), below_new _ _⟩
  · go_wp2_with fail
    go_ret
    exact ⟨ret_bool (by rw [decide_eq_false (show ¬ 10 < (n : Int) by omega)]; simp), below_new _ _⟩

set_option maxHeartbeats 1000000 in
set_option maxRecDepth 100000 in
theorem sameInts_any (a a' : Option Addr) (len cap cap' : Nat) (F : Nat → Int) (hl : len ≤ 1000) (w : World) (h : NumsAt w a len F) (h' : NumsAt w a' len F) :
    Calls Try.prog 23 #[.slice a len cap, .slice a' len cap'] w fun e w' => e = .returned (.bool true) ∧ Below w.heap.size w w' := by
  have HA := Lib.hid h
  have HA' := Lib.hid h'
  clear h h'
  go_enter Try.func23, Try.ntmps23
  go_wp2_with fail
  go_loopw [5] (fun i wr => ∃ k : Nat, k ≤ len ∧ i = .int .i64 k ∧ Below w.heap.size w wr) (fun i _ => len - (intOf i).toNat)
  case atStart => exact ⟨0, Nat.zero_le _, rfl, Below.refl _ _⟩
  case round =>
    obtain ⟨k, hk, rfl, hB⟩ := hrel
    by_cases hlt : k < len
    · obtain ⟨b, off, rfl, g0⟩ := HA.out k hlt
      obtain ⟨b', off', rfl, g1⟩ := HA'.out k hlt
      have e0 := below_cell hB g0
      have e1 := below_cell hB g1
      have hk2 : (k : Int) < len := by omega
      have x0 := among_below e0
      have x1 := among_below e1
      have HB := Lib.hid hB
      have HSt : Hid (Below wr.heap.size wr wr.drew) := Lib.hid (Below.refl _ _).drew
      have hne : Nonempty (Among (Below wr.heap.size wr)) := ⟨⟨_, HSt.out⟩⟩
      clear hB g0 g1 e0 e1
      go_wp2_with fail
      refine wp_region_class (Below wr.heap.size wr) (by kernel_rfl) (by kernel_rfl) HSt.out ?_
      repeat (go_big_quiet_step (fail))
      refine wpQuiet_nil ?_
      intro w3 hx
      have HB3 : Hid (Below w.heap.size w w3) := Lib.hid (below_thn HB.out (among_out hx))
      clear hx hne x0 x1
      go_wp2_with fail
      go_roundw
      case rel => exact ⟨k + 1, by omega, by go_num, HB3.out⟩
      case measure => simp [intOf]; omega
    · obtain rfl : k = len := by omega
      go_wp2_with fail
      go_ret
      exact ⟨rfl, hB⟩

set_option maxHeartbeats 1000000 in
set_option maxRecDepth 100000 in
theorem samePours_any (a a' : Option Addr) (len cap cap' : Nat) (F : Nat → Int) (hl : len ≤ 1000) (w : World) (h : NumsAt w a (len * 2) F) (h' : NumsAt w a' (len * 2) F) :
    Calls Try.prog 13 #[.slice a len cap, .slice a' len cap'] w fun e w' => e = .returned (.bool true) ∧ Below w.heap.size w w' := by
  have HA := Lib.hid h
  have HA' := Lib.hid h'
  clear h h'
  go_enter Try.func13, Try.ntmps13
  go_wp2_with fail
  go_loopw [5] (fun i wr => ∃ k : Nat, k ≤ len ∧ i = .int .i64 k ∧ Below w.heap.size w wr) (fun i _ => len - (intOf i).toNat)
  case atStart => exact ⟨0, Nat.zero_le _, rfl, Below.refl _ _⟩
  case round =>
    obtain ⟨k, hk, rfl, hB⟩ := hrel
    by_cases hlt : k < len
    · obtain ⟨b, off, rfl, _⟩ := HA.out (k * 2) (by omega)
      obtain ⟨b', off', rfl, _⟩ := HA'.out (k * 2) (by omega)
      have g0 := HA.out.at (show k * 2 < len * 2 by omega)
      have g1 := HA'.out.at (show k * 2 < len * 2 by omega)
      have g2 := nums_row HA.out (show k * 2 + 1 < len * 2 by omega)
      have g3 := nums_row HA'.out (show k * 2 + 1 < len * 2 by omega)
      have e0 := below_cell hB g0
      have e1 := below_cell hB g1
      have e2 := below_cell hB g2
      have e3 := below_cell hB g3
      have hk2 : (k : Int) < len := by omega
      have x0 := among_below e0
      have x1 := among_below e1
      have x2 := among_below e2
      have x3 := among_below e3
      have HB := Lib.hid hB
      have HSt : Hid (Below wr.heap.size wr wr.drew) := Lib.hid (Below.refl _ _).drew
      have hne : Nonempty (Among (Below wr.heap.size wr)) := ⟨⟨_, HSt.out⟩⟩
      clear hB g0 g1 g2 g3 e0 e1 e2 e3
      go_wp2_with fail
      refine wp_region_class (Below wr.heap.size wr) (by kernel_rfl) (by kernel_rfl) HSt.out ?_
      repeat (go_big_quiet_step (fail))
      refine wpQuiet_nil ?_
      intro w3 hx
      have HB3 : Hid (Below w.heap.size w w3) := Lib.hid (below_thn HB.out (among_out hx))
      clear hx hne x0 x1 x2 x3
      go_wp2_with fail
      go_roundw
      case rel => exact ⟨k + 1, by omega, by go_num, HB3.out⟩
      case measure => simp [intOf]; omega
    · obtain rfl : k = len := by omega
      go_wp2_with fail
      go_ret
      exact ⟨rfl, hB⟩

set_option maxHeartbeats 4000000 in
set_option maxRecDepth 100000 in
theorem same_true (a : Option Addr) (n c : Nat) (b : Option Addr) (m d : Nat) (k : Int) (a1 : Option Addr) (c1 : Nat) (b1 : Option Addr) (d1 : Nat) (F G : Nat → Int) (hn : n ≤ 60) (hm : m ≤ 60) (w : World) (hF : NumsAt w a n F) (hG : NumsAt w b m G) (hF1 : NumsAt w a1 n F) (hG1 : NumsAt w b1 m G) :
    Calls Try.prog 10 #[cansV a n c b m d k, cansV a1 n c1 b1 m d1 k] w fun e w' => e = .returned (.bool true) ∧ Below w.heap.size w w' := by
  obtain ⟨W, hW⟩ : ∃ W, (w.alloc (cansB a n c b m d k)).alloc (cansB a1 n c1 b1 m d1 k) = W := ⟨_, rfl⟩
  have HB0 : Hid (Below w.heap.size w W) := Lib.hid (by rw [← hW]; exact (below_new _ _).alloc (by simp) _)
  have HX0 : Hid (W.heap[w.heap.size]? = some (cansB a n c b m d k)) := Lib.hid (by rw [← hW]; exact heap_up (heap_top _ _ rfl) _)
  have HY0 : Hid (W.heap[w.heap.size + 1]? = some (cansB a1 n c1 b1 m d1 k)) := Lib.hid (by rw [← hW]; exact heap_top _ _ (by simp))
  have HF := Lib.hid (hF.below HB0.out)
  have HG := Lib.hid (hG.below HB0.out)
  have HF1 := Lib.hid (hF1.below HB0.out)
  have HG1 := Lib.hid (hG1.below HB0.out)
  clear hF hG hF1 hG1
  have x0 := heap_cell HX0.out (v := .slice a n c) (j := 0) rfl
  have y0 := heap_cell HY0.out (v := .slice a1 n c1) (j := 0) rfl
  go_enter Try.func10, Try.ntmps10
  go_upto_region 1 with fail
  try rw [hW]
  clear hW
  go_wp2_with fail
  refine (sameInts_any a a1 n c c1 F (by omega) W HF.out HF1.out).mono ?_
  rintro e W1 ⟨rfl, hb1⟩
  clear x0 y0
  have HX1 := Lib.hid (heap_lft HX0.out hb1)
  have HY1 := Lib.hid (heap_lft HY0.out hb1)
  have HB1 := Lib.hid hb1
  clear hb1
  have x1 := heap_cell HX1.out (v := .slice b m d) (j := 1) rfl
  have y1 := heap_cell HY1.out (v := .slice b1 m d1) (j := 1) rfl
  go_wp2_with fail
  refine (sameInts_any b b1 m d d1 G (by omega) W1 (HG.out.below HB1.out) (HG1.out.below HB1.out)).mono ?_
  rintro e W2 ⟨rfl, hb2⟩
  clear x1 y1
  have x2 := heap_cell (heap_lft HX1.out hb2) (v := .int .i64 k) (j := 2) rfl
  have y2 := heap_cell (heap_lft HY1.out hb2) (v := .int .i64 k) (j := 2) rfl
  have HB2 := Lib.hid (below_thn (below_thn HB0.out HB1.out) hb2)
  clear hb2
  have hkk : (k == k) = true := by simp
  go_wp2_with fail
  go_ret
  exact ⟨by simp, HB2.out⟩

theorem Pure.cans_no {n m : Nat} {A B : Nat → Int} {k : Int} (h : ¬ (((1 ≤ (n : Int) ∧ (n : Int) ≤ 3) ∧ m = n) ∧ (∀ j, j < n → 1 ≤ A j ∧ A j ≤ 20) ∧ (∀ j, j < m → 0 ≤ B j ∧ B j ≤ A j) ∧ 0 ≤ k ∧ k ≤ 600)) : Pure.cans n A m B k = false := by
  cases e : Pure.cans n A m B k with
  | false => rfl
  | true =>
    exfalso
    apply h
    simp only [Pure.cans, Pure.fewC, Pure.sizesC, Pure.inSpan, Pure.holdC, Pure.stockC, Bool.and_eq_true, decide_eq_true_eq] at e
    exact ⟨e.1.1.1, e.1.1.2, e.1.2, e.2⟩
theorem Pure.cans_yes {n m : Nat} {A B : Nat → Int} {k : Int} (h1 : 1 ≤ (n : Int) ∧ (n : Int) ≤ 3) (h2 : m = n) (h3 : ∀ j, j < n → 1 ≤ A j ∧ A j ≤ 20) (h4 : ∀ j, j < m → 0 ≤ B j ∧ B j ≤ A j) (h5 : 0 ≤ k ∧ k ≤ 600) : Pure.cans n A m B k = true := by
  simp only [Pure.cans, Pure.fewC, Pure.sizesC, Pure.inSpan, Pure.holdC, Pure.stockC, Bool.and_eq_true, decide_eq_true_eq]
  exact ⟨⟨⟨⟨h1, h2⟩, h3⟩, h4⟩, h5⟩

set_option maxHeartbeats 4000000 in
set_option maxRecDepth 100000 in
theorem rCans_any (a : Option Addr) (n c : Nat) (b : Option Addr) (m d : Nat) (k : Int) (A B : Nat → Int) (hn : n ≤ 60) (w : World) (hA : NumsAt w a n A) (hB : NumsAt w b m B) :
    Calls Try.prog 14 #[cansV a n c b m d k] w fun e w' => e = .returned (.bool (Pure.cans n A m B k)) ∧ Below w.heap.size w w' := by
  obtain ⟨W, hW⟩ : ∃ W, w.alloc (cansB a n c b m d k) = W := ⟨_, rfl⟩
  have HB : Hid (Below w.heap.size w W) := Lib.hid (by rw [← hW]; exact below_new _ _)
  have HX : Hid (W.heap[w.heap.size]? = some (cansB a n c b m d k)) := Lib.hid (by rw [← hW]; exact heap_top _ _ rfl)
  have HA := Lib.hid (hA.below HB.out)
  have HBB := Lib.hid (hB.below HB.out)
  clear hA hB
  have x0 := heap_cell HX.out (v := .slice a n c) (j := 0) rfl
  have x1 := heap_cell HX.out (v := .slice b m d) (j := 1) rfl
  have x2 := heap_cell HX.out (v := .int .i64 k) (j := 2) rfl
  obtain ⟨r0, hr0⟩ : ∃ r, decide ((1 : Int) ≤ (n : Int) ∧ (n : Int) ≤ 3) = r := ⟨_, rfl⟩
  have HR0 := Lib.hid hr0
  clear hr0
  go_enter Try.func14, Try.ntmps14
  go_upto_region 1 with fail
  try rw [hW]
  clear hW
  go_wp2_with fail
  refine (rWithinE (n : Int) 1 3 r0 HR0.out _).mono ?_
  rintro e w' ⟨rfl, rfl⟩
  cases r0
  · go_wp2_with fail
    go_ret
    exact ⟨ret_bool (Pure.cans_no fun g => by have h := of_decide_eq_false HR0.out; omega).symm, HB.out⟩
  · by_cases hmn : m = n
    · subst hmn
      have e1 : ((m : Int) != (m : Int)) = false := by simp
      obtain ⟨r1, hr1⟩ : ∃ r, decide ((0 : Int) ≤ k ∧ k ≤ 600) = r := ⟨_, rfl⟩
      have HR1 := Lib.hid hr1
      clear hr1
      go_wp2_with fail
      refine (rWithinE k 0 600 r1 HR1.out _).mono ?_
      rintro e w' ⟨rfl, rfl⟩
      cases r1
      · go_wp2_with fail
        go_ret
        exact ⟨ret_bool (Pure.cans_no fun g => by have h := of_decide_eq_false HR1.out; omega).symm, HB.out⟩
      · go_wp2_with fail
        clear x0 x1 x2 e1
        go_loopw [3] (fun i wr => ∃ j : Nat, j ≤ m ∧ i = .int .i64 j ∧ (∀ q, q < j → (1 ≤ A q ∧ A q ≤ 20) ∧ 0 ≤ B q ∧ B q ≤ A q) ∧ Below W.heap.size W wr) (fun i _ => m - (intOf i).toNat)
        case atStart => exact ⟨0, Nat.zero_le _, rfl, fun j hj => by omega, Below.refl _ _⟩
        case round =>
          obtain ⟨j, hj, rfl, hq, hb⟩ := hrel
          have HQ := Lib.hid hq
          have HBr := Lib.hid hb
          have HXr := Lib.hid (heap_lft HX.out hb)
          have HAr := Lib.hid (HA.out.below hb)
          have HBBr := Lib.hid (HBB.out.below hb)
          clear hq hb
          have x0 := heap_cell HXr.out (v := .slice a m c) (j := 0) rfl
          have x1 := heap_cell HXr.out (v := .slice b m d) (j := 1) rfl
          by_cases hlt : j < m
          · obtain ⟨g, off, rfl, c0⟩ := HAr.out j hlt
            obtain ⟨g', off', rfl, c1⟩ := HBBr.out j hlt
            have n1 : (j : Int) < m := by omega
            obtain ⟨r, hr⟩ : ∃ r, decide ((1 : Int) ≤ A j ∧ A j ≤ 20) = r := ⟨_, rfl⟩
            have HR := Lib.hid hr
            obtain ⟨q, hqq⟩ : ∃ r, decide ((0 : Int) ≤ B j ∧ B j ≤ A j) = r := ⟨_, rfl⟩
            have HQQ := Lib.hid hqq
            clear hr hqq
            go_upto_region 6 with fail
            have xx0 := among_below c0
            have xx1 := among_below c1
            have xx2 := among_below x0
            have xx3 := among_below x1
            have HSt : Hid (Below wr.heap.size wr wr.drew) := Lib.hid (Below.refl _ _).drew
            have hne : Nonempty (Among (Below wr.heap.size wr)) := ⟨⟨_, HSt.out⟩⟩
            have HC1 : Hid (∀ xq : Among (Below wr.heap.size wr), Calls Try.prog 25 #[.int .i64 (A j), .int .i64 1, .int .i64 20] xq.val fun e w' => e = .returned (.bool r) ∧ ∃ y : Among (Below wr.heap.size wr), w' = y.val) := Lib.hid (fun xq => calls_class ((rWithinE (A j) 1 20 r HR.out xq.val).mono fun e w' h => ⟨h.1, by rw [← h.2]; exact xq.ok⟩))
            have HC2 : Hid (∀ xq : Among (Below wr.heap.size wr), Calls Try.prog 25 #[.int .i64 (B j), .int .i64 0, .int .i64 (A j)] xq.val fun e w' => e = .returned (.bool q) ∧ ∃ y : Among (Below wr.heap.size wr), w' = y.val) := Lib.hid (fun xq => calls_class ((rWithinE (B j) 0 (A j) q HQQ.out xq.val).mono fun e w' h => ⟨h.1, by rw [← h.2]; exact xq.ok⟩))
            cases r
            · refine wp_region_class (Below wr.heap.size wr) (by kernel_rfl) (by kernel_rfl) HSt.out ?_
              repeat (go_big_quiet_step ((go_at_call 25; first | with_reducible exact HC1.out _ | with_reducible exact HC2.out _)))
              refine wpQuiet_nil ?_
              intro w8 hx
              have HB8 := Lib.hid (below_thn HBr.out (among_out hx))
              clear hx hne xx0 xx1 xx2 xx3 c0 c1 x0 x1
              go_wp2_with fail
              go_ret
              exact ⟨ret_bool (Pure.cans_no fun g => by have h := of_decide_eq_false HR.out; exact h (g.2.1 j hlt)).symm, below_thn HB.out HB8.out⟩
            · cases q
              · refine wp_region_class (Below wr.heap.size wr) (by kernel_rfl) (by kernel_rfl) HSt.out ?_
                repeat (go_big_quiet_step ((go_at_call 25; first | with_reducible exact HC1.out _ | with_reducible exact HC2.out _)))
                refine wpQuiet_nil ?_
                intro w8 hx
                have HB8 := Lib.hid (below_thn HBr.out (among_out hx))
                clear hx hne xx0 xx1 xx2 xx3 c0 c1 x0 x1
                go_wp2_with fail
                go_ret
                exact ⟨ret_bool (Pure.cans_no fun g => by have h := of_decide_eq_false HQQ.out; exact h (g.2.2.1 j hlt)).symm, below_thn HB.out HB8.out⟩
              · refine wp_region_class (Below wr.heap.size wr) (by kernel_rfl) (by kernel_rfl) HSt.out ?_
                repeat (go_big_quiet_step ((go_at_call 25; first | with_reducible exact HC1.out _ | with_reducible exact HC2.out _)))
                refine wpQuiet_nil ?_
                intro w8 hx
                have HB8 := Lib.hid (below_thn HBr.out (among_out hx))
                clear hx hne xx0 xx1 xx2 xx3 c0 c1 x0 x1
                go_wp2_with fail
                go_roundw
                case rel => exact ⟨j + 1, by omega, by go_num, fun y hy => by
                  by_cases e : y = j
                  · subst e; exact ⟨of_decide_eq_true HR.out, of_decide_eq_true HQQ.out⟩
                  · exact HQ.out y (by omega), HB8.out⟩
                case measure => simp [intOf]; omega
          · obtain rfl : m = j := by omega
            have n1 : ¬ (m : Int) < (m : Int) := by omega
            go_wp2_with fail
            go_ret
            exact ⟨ret_bool (Pure.cans_yes (of_decide_eq_true HR0.out) rfl (fun y hy => (HQ.out y hy).1) (fun y hy => (HQ.out y hy).2) (of_decide_eq_true HR1.out)).symm, below_thn HB.out HBr.out⟩
    · have e1 : ((m : Int) != (n : Int)) = true := by simp; omega
      have HMN := Lib.hid hmn
      clear hmn
      go_wp2_with fail
      go_ret
      exact ⟨ret_bool (Pure.cans_no fun g => HMN.out g.1.2).symm, HB.out⟩
theorem rCheck_any (a : Option Addr) (n c : Nat) (b : Option Addr) (m d : Nat) (k : Int) (A B : Nat → Int) (hn : n ≤ 60) (w : World) (hA : NumsAt w a n A) (hB : NumsAt w b m B) :
    Calls Try.prog 12 #[cansV a n c b m d k] w fun e w' => e = .returned (.int .i64 (Pure.err (Pure.cans n A m B k) 80)) ∧ Below w.heap.size w w' := by
  obtain ⟨W, hW⟩ : ∃ W, w.alloc (cansB a n c b m d k) = W := ⟨_, rfl⟩
  have HB : Hid (Below w.heap.size w W) := Lib.hid (by rw [← hW]; exact below_new _ _)
  have HX : Hid (W.heap[w.heap.size]? = some (cansB a n c b m d k)) := Lib.hid (by rw [← hW]; exact heap_top _ _ rfl)
  have HA := Lib.hid (hA.below HB.out)
  have HBB := Lib.hid (hB.below HB.out)
  clear hA hB
  have x0 := heap_cell HX.out (v := .slice a n c) (j := 0) rfl
  have x1 := heap_cell HX.out (v := .slice b m d) (j := 1) rfl
  have x2 := heap_cell HX.out (v := .int .i64 k) (j := 2) rfl
  go_enter Try.func12, Try.ntmps12
  go_upto_region 1 with fail
  try rw [hW]
  clear hW
  go_wp2_with fail
  refine (rCans_any a n c b m d k A B hn W HA.out HBB.out).mono ?_
  rintro e w' ⟨rfl, hb⟩
  have HB2 := Lib.hid (below_thn HB.out hb)
  clear hb x0 x1 x2
  obtain ⟨q, hq⟩ : ∃ q, Pure.cans n A m B k = q := ⟨_, rfl⟩
  rw [hq]
  have HQ := Lib.hid hq
  clear hq
  cases q
  · go_wp2_with fail
    go_ret
    exact ⟨ret_int (by rw [HQ.out]; rfl), HB2.out⟩
  · go_wp2_with fail
    go_ret
    exact ⟨ret_int (by rw [HQ.out]; rfl), HB2.out⟩
set_option maxHeartbeats 2000000 in
set_option maxRecDepth 100000 in
theorem rPouring_any (a : Option Addr) (n c : Nat) (b : Option Addr) (m d : Nat) (k : Int) (f t : Int) (w : World) :
    Calls Try.prog 15 #[cansV a n c b m d k, pourV f t] w fun e w' => e = .returned (.bool (decide (validP n f t))) ∧ Below w.heap.size w w' := by
  obtain ⟨W, hW⟩ : ∃ W, (w.alloc (cansB a n c b m d k)).alloc (pourB f t) = W := ⟨_, rfl⟩
  have HB : Hid (Below w.heap.size w W) := Lib.hid (by rw [← hW]; exact (below_new _ _).alloc (by simp) _)
  have HX : Hid (W.heap[w.heap.size]? = some (cansB a n c b m d k)) := Lib.hid (by rw [← hW]; exact heap_up (heap_top _ _ rfl) _)
  have HY : Hid (W.heap[w.heap.size + 1]? = some (pourB f t)) := Lib.hid (by rw [← hW]; exact heap_top _ _ (by simp))
  have x0 := heap_cell HX.out (v := .slice a n c) (j := 0) rfl
  have y0 := heap_cell HY.out (v := .int .i64 f) (j := 0) rfl
  have y1 := heap_cell HY.out (v := .int .i64 t) (j := 1) rfl
  obtain ⟨r0, hr0⟩ : ∃ r, decide ((0 : Int) ≤ f ∧ f ≤ (n : Int)) = r := ⟨_, rfl⟩
  have HR0 := Lib.hid hr0
  obtain ⟨r1, hr1⟩ : ∃ r, decide ((0 : Int) ≤ t ∧ t ≤ (n : Int)) = r := ⟨_, rfl⟩
  have HR1 := Lib.hid hr1
  clear hr0 hr1
  go_enter Try.func15, Try.ntmps15
  go_upto_region 1 with fail
  try rw [hW]
  clear hW
  go_wp2_with fail
  refine (rWithinE f 0 (n : Int) r0 HR0.out _).mono ?_
  rintro e w' ⟨rfl, rfl⟩
  cases r0
  · go_wp2_with fail
    go_ret
    exact ⟨ret_bool (decide_eq_false (fun g => by unfold validP at g; have h := of_decide_eq_false HR0.out; omega)).symm, HB.out⟩
  · go_wp2_with fail
    refine (rWithinE t 0 (n : Int) r1 HR1.out _).mono ?_
    rintro e w' ⟨rfl, rfl⟩
    cases r1
    · go_wp2_with fail
      go_ret
      exact ⟨ret_bool (decide_eq_false (fun g => by unfold validP at g; have h := of_decide_eq_false HR1.out; omega)).symm, HB.out⟩
    · by_cases h : f = t
      · have e1 : (f != t) = false := by simp [h]
        have H := Lib.hid h
        clear h
        go_wp2_with fail
        go_ret
        exact ⟨ret_bool (decide_eq_false (fun g => g.2.2.2.2 H.out)).symm, HB.out⟩
      · have e1 : (f != t) = true := by simp [h]
        have H := Lib.hid h
        clear h
        go_wp2_with fail
        go_ret
        exact ⟨ret_bool (decide_eq_true (by have h0 := of_decide_eq_true HR0.out; have h1 := of_decide_eq_true HR1.out; exact ⟨h0.1, h0.2, h1.1, h1.2, H.out⟩)).symm, HB.out⟩
end Go.Proofs.Ytjemcmehgkhhlaa
