/-
  The contracts of what a watch is asked, and of Check.
-/
import Derived.Test.YteoakchcomodgaaWOrd
namespace Go.Proofs.Yteoakchcomodgaa
open Go.RowKit

namespace Pure
def hands (h : Int) : Bool := decide (0 ≤ h ∧ h ≤ 3)
def wrongR (i e d : Int) : Bool := !decide (1 ≤ i ∧ i ≤ 9999) || (!decide (1 ≤ e ∧ e ≤ 6) || !decide (0 ≤ d ∧ d ≤ e - 1))
def fewR (n : Nat) : Bool := decide ((n : Int) ≤ 4)
def fitR (n : Nat) (F : Nat → Int) : Bool := !(List.range n).any (fun j => wrongR (F (j * 3)) (F (j * 3 + 1)) (F (j * 3 + 2)))
def ordR (n : Nat) (F : Nat → Int) : Bool := inOrder (fun j => decide (F (j * 3) < F ((j + 1) * 3))) n
def watch (h : Int) (n : Nat) (F : Nat → Int) : Bool := hands h && fewR n && fitR n F && ordR n F
end Pure

theorem handsFit_any (h : Int) (a : Option Addr) (n c : Nat) (w : World) : Calls Try.prog 52 #[watchV h a n c] w fun e w' => e = .returned (.bool (Pure.hands h)) ∧ Below w.heap.size w w' := by
  go_enter Try.func52, Try.ntmps52
  go_wp2_with fail
  refine (within1 0 3 h _ _ _ (first_cell _ _ _ (by simp)) _ rfl).mono ?_
  rintro e w' ⟨rfl, rfl⟩
  go_wp2_with fail
  go_ret
  exact ⟨ret_bool (by simp [Pure.hands]), by repeat (first | exact Below.refl _ _ | refine Below.alloc ?_ (by simp; try omega) _)⟩
theorem fewRicks_any (h : Int) (a : Option Addr) (n c : Nat) (w : World) : Calls Try.prog 53 #[watchV h a n c] w fun e w' => e = .returned (.bool (Pure.fewR n)) ∧ Below w.heap.size w w' := by
  go_enter Try.func53, Try.ntmps53
  go_wp2_with fail
  go_ret
  exact ⟨rfl, below_new _ _⟩
set_option maxHeartbeats 2000000 in
set_option maxRecDepth 100000 in
/-- The closure that finds a wrong rick. -/
theorem rickWrong_any (i e d : Int) (w : World) :
    Calls Try.prog 65 #[rickV i e d] w fun x w' => x = .returned (.bool (Pure.wrongR i e d)) ∧ Below w.heap.size w w' := by
  unfold Pure.wrongR
  obtain ⟨r1, hr1⟩ : ∃ r, decide (1 ≤ i ∧ i ≤ 9999) = r := ⟨_, rfl⟩
  obtain ⟨r2, hr2⟩ : ∃ r, decide (1 ≤ e ∧ e ≤ 6) = r := ⟨_, rfl⟩
  obtain ⟨r3, hr3⟩ : ∃ r, decide (0 ≤ d ∧ d ≤ e - 1) = r := ⟨_, rfl⟩
  rw [hr1, hr2, hr3]
  have HR1 := Lib.hid hr1
  have HR2 := Lib.hid hr2
  have HR3 := Lib.hid hr3
  clear hr1 hr2 hr3
  go_enter Try.func65, Try.ntmps65
  go_wp2_with fail
  refine (within1 1 9999 i _ _ _ (first_cell _ _ _ (by simp)) r1 HR1.out).mono ?_
  rintro x w' ⟨rfl, rfl⟩
  cases r1
  · go_wp2_with fail
    go_ret
    exact ⟨rfl, by repeat (first | exact Below.refl _ _ | refine Below.alloc ?_ (by simp; try omega) _)⟩
  · go_wp2_with fail
    refine (within1 1 6 e _ _ _ (first_cell _ _ _ (by simp)) r2 HR2.out).mono ?_
    rintro x w' ⟨rfl, rfl⟩
    cases r2
    · go_wp2_with fail
      go_ret
      exact ⟨rfl, by repeat (first | exact Below.refl _ _ | refine Below.alloc ?_ (by simp; try omega) _)⟩
    · have he := of_decide_eq_true HR2.out
      have HE1 : Hid (IntKind.i64.wrap (e - 1) = e - 1) := Lib.hid (by rw [IntWalk.i64_in _ (by omega)])
      have hw := HE1.out
      clear he
      go_wp2_with fail
      refine (within1 0 (e - 1) d _ _ _ (first_cell _ _ _ (by simp)) r3 HR3.out).mono ?_
      rintro x w' ⟨rfl, rfl⟩
      cases r3
      all_goals
        go_wp2_with fail
        go_ret
        exact ⟨rfl, by repeat (first | exact Below.refl _ _ | refine Below.alloc ?_ (by simp; try omega) _)⟩
theorem rickOrder_any (i e d i' e' d' : Int) (w : World) :
    Calls Try.prog 67 #[rickV i e d, rickV i' e' d'] w fun x w' => x = .returned (.bool (decide (i < i'))) ∧ Below w.heap.size w w' := by
  go_enter Try.func67, Try.ntmps67
  go_wp2_with fail
  go_ret
  exact ⟨rfl, by repeat (first | exact Below.refl _ _ | refine Below.alloc ?_ (by simp; try omega) _)⟩
set_option maxHeartbeats 1000000 in
theorem ricksFit_any (h : Int) (a : Option Addr) (n c : Nat) (F : Nat → Int) (hn : n ≤ 40) (w : World) (hF : NumsAt w a (n * 3) F) : Calls Try.prog 54 #[watchV h a n c] w fun e w' => e = .returned (.bool (Pure.fitR n F)) ∧ Below w.heap.size w w' := by
  have HN := Lib.hid hF
  clear hF
  go_enter Try.func54, Try.ntmps54
  go_wp2_with fail
  refine (containsWrong_any a n c F (fun j => Pure.wrongR (F (j * 3)) (F (j * 3 + 1)) (F (j * 3 + 2))) hn _ (HN.out.below (below_new _ _)) (fun u j hj hb => rickWrong_any _ _ _ u)).mono ?_
  rintro e w2 ⟨rfl, hb⟩
  have HB := Lib.hid (below_thn (below_new _ _) hb)
  clear hb
  go_wp2_with fail
  go_ret
  exact ⟨ret_bool (by simp [Pure.fitR]), HB.out⟩
set_option maxHeartbeats 1000000 in
theorem ricksInOrder_any (h : Int) (a : Option Addr) (n c : Nat) (F : Nat → Int) (hn : n ≤ 40) (w : World) (hF : NumsAt w a (n * 3) F) : Calls Try.prog 55 #[watchV h a n c] w fun e w' => e = .returned (.bool (Pure.ordR n F)) ∧ Below w.heap.size w w' := by
  have HN := Lib.hid hF
  clear hF
  go_enter Try.func55, Try.ntmps55
  go_wp2_with fail
  refine (inOrderRick_any a n c F (fun j => decide (F (j * 3) < F ((j + 1) * 3))) hn _ (HN.out.below (below_new _ _)) (fun u j hj hb => rickOrder_any _ _ _ _ _ _ u)).mono ?_
  rintro e w2 ⟨rfl, hb⟩
  have HB := Lib.hid (below_thn (below_new _ _) hb)
  clear hb
  go_wp2_with fail
  go_ret
  exact ⟨rfl, HB.out⟩

abbrev questionsV : Value := .agg #[.func (.func 52) #[] #[], .func (.func 53) #[] #[], .func (.func 54) #[] #[], .func (.func 55) #[] #[]]
theorem qIdx0 (w : World) : (Instr.index 94 questionsV (.int .i64 0)).run Try.prog w = .ok (.agg #[.func (.func 52) #[] #[]]) w := by kernel_rfl
theorem qIdx1 (w : World) : (Instr.index 94 questionsV (.int .i64 1)).run Try.prog w = .ok (.agg #[.func (.func 53) #[] #[]]) w := by kernel_rfl
theorem qIdx2 (w : World) : (Instr.index 94 questionsV (.int .i64 2)).run Try.prog w = .ok (.agg #[.func (.func 54) #[] #[]]) w := by kernel_rfl
theorem qIdx3 (w : World) : (Instr.index 94 questionsV (.int .i64 3)).run Try.prog w = .ok (.agg #[.func (.func 55) #[] #[]]) w := by kernel_rfl
theorem questions_any (w : World) : Calls Try.prog 46 #[] w fun e w' => e = .returned questionsV ∧ Below w.heap.size w w' := by
  go_enter Try.func46, Try.ntmps46
  go_wp2_with fail
  refine bodyPost_ret (v := questionsV) (by simp [results, Try.results46, go_sem]) rfl ⟨rfl, ?_⟩
  repeat (first | exact Below.refl _ _ | refine Below.setCell ?_ (by simp) _ | refine Below.alloc ?_ (by simp; try omega) _)

set_option maxHeartbeats 4000000 in
set_option maxRecDepth 100000 in
/-- **Check**. -/
theorem check_any (h : Int) (a : Option Addr) (n c : Nat) (F : Nat → Int) (hn : n ≤ 40) (w : World) (hF : NumsAt w a (n * 3) F) :
    Calls Try.prog 36 #[watchV h a n c] w fun e w' => e = .returned (.int .i64 (Pure.err (Pure.watch h n F) 70)) ∧ Below w.heap.size w w' := by
  have HP := Lib.hid hF
  clear hF
  go_enter Try.func36, Try.ntmps36
  go_wp2_with fail
  refine (questions_any _).mono ?_
  rintro e W ⟨rfl, hb⟩
  have HB := Lib.hid ((below_new w (watchB h a n c)).trans (hb.mono (by simp)))
  have HX := Lib.hid (heap_lft (heap_top w (watchB h a n c) rfl) hb)
  clear hb
  go_wp2_with fail
  go_loopw [4, 6] (fun _ i wr => ∃ k : Nat, k ≤ 4 ∧ i = .int .i64 k ∧ (1 ≤ k → Pure.hands h = true) ∧ (2 ≤ k → Pure.fewR n = true) ∧ (3 ≤ k → Pure.fitR n F = true) ∧ (4 ≤ k → Pure.ordR n F = true) ∧ Below W.heap.size W wr) (fun _ i _ => 4 - (intOf i).toNat)
  case atStart => exact ⟨0, by omega, rfl, by omega, by omega, by omega, by omega, Below.refl _ _⟩
  case round =>
    obtain ⟨k, hk, rfl, q1, q2, q3, q4, hb⟩ := hrel
    have HQ := Lib.hid (And.intro q1 (And.intro q2 (And.intro q3 q4)))
    have HX2 := Lib.hid (heap_lft HX.out hb)
    have HBk := Lib.hid hb
    have hbl : ∀ W', Below W.heap.size W W' → Below w.heap.size w W' := fun W' g => below_thn HB.out g
    have HBL := Lib.hid hbl
    clear q1 q2 q3 q4 hb hbl
    have hs1 : w.heap.size < wr.heap.size := (Array.getElem?_eq_some_iff.1 HX2.out).1
    have hk5 : k = 0 ∨ k = 1 ∨ k = 2 ∨ k = 3 ∨ k = 4 := by omega
    rcases hk5 with rfl | rfl | rfl | rfl | rfl
    · obtain ⟨r, hr⟩ : ∃ r, Pure.hands h = r := ⟨_, rfl⟩
      have HR := Lib.hid hr
      clear hr
      obtain ⟨U, hU⟩ : ∃ U, wr.alloc (.cells #[.func (.func 52) #[] #[]] 93) = U := ⟨_, rfl⟩
      have HBU0 : Hid (Below W.heap.size W U) := Lib.hid (by rw [← hU]; exact below_thn HBk.out (below_new _ _))
      have HXU : Hid (U.heap[w.heap.size]? = some (watchB h a n c)) := Lib.hid (by rw [← hU]; exact heap_up HX2.out _)
      have HF : Hid (U.heap[wr.heap.size]? = some (.cells #[.func (.func 52) #[] #[]] 93)) := Lib.hid (by rw [← hU]; exact heap_top _ _ rfl)
      have HBU := Lib.hid (HBL.out _ HBU0.out)
      have k0 := heap_cell HXU.out (j := 0) rfl
      have k1 := heap_cell HXU.out (j := 1) rfl
      have kf := heap_cell HF.out (j := 0) rfl
      have hidx := qIdx0 wr
      go_upto_region 4 with fail
      try rw [hU]
      clear hU
      go_wp2_with fail
      refine (handsFit_any h a n c _).mono ?_
      rintro e u ⟨rfl, hb⟩
      rw [HR.out]
      have HB9 := Lib.hid (below_thn HBU0.out hb)
      clear hb kf k0 k1
      cases r
      · go_wp2_with fail
        go_ret
        exact ⟨ret_int (by simp [Pure.err, Pure.watch, HR.out]), HBL.out _ HB9.out⟩
      · go_wp2_with fail
        go_roundw
        case rel => exact ⟨1, by omega, rfl, fun _ => HR.out, fun g => absurd g (by omega), fun g => absurd g (by omega), fun g => absurd g (by omega), HB9.out⟩
        case measure => simp [intOf]
    · obtain ⟨r, hr⟩ : ∃ r, Pure.fewR n = r := ⟨_, rfl⟩
      have HR := Lib.hid hr
      clear hr
      obtain ⟨U, hU⟩ : ∃ U, wr.alloc (.cells #[.func (.func 53) #[] #[]] 93) = U := ⟨_, rfl⟩
      have HBU0 : Hid (Below W.heap.size W U) := Lib.hid (by rw [← hU]; exact below_thn HBk.out (below_new _ _))
      have HXU : Hid (U.heap[w.heap.size]? = some (watchB h a n c)) := Lib.hid (by rw [← hU]; exact heap_up HX2.out _)
      have HF : Hid (U.heap[wr.heap.size]? = some (.cells #[.func (.func 53) #[] #[]] 93)) := Lib.hid (by rw [← hU]; exact heap_top _ _ rfl)
      have HBU := Lib.hid (HBL.out _ HBU0.out)
      have k0 := heap_cell HXU.out (j := 0) rfl
      have k1 := heap_cell HXU.out (j := 1) rfl
      have kf := heap_cell HF.out (j := 0) rfl
      have hidx := qIdx1 wr
      go_upto_region 4 with fail
      try rw [hU]
      clear hU
      go_wp2_with fail
      refine (fewRicks_any h a n c _).mono ?_
      rintro e u ⟨rfl, hb⟩
      rw [HR.out]
      have HB9 := Lib.hid (below_thn HBU0.out hb)
      clear hb kf k0 k1
      cases r
      · go_wp2_with fail
        go_ret
        exact ⟨ret_int (by simp [Pure.err, Pure.watch, HR.out]), HBL.out _ HB9.out⟩
      · go_wp2_with fail
        go_roundw
        case rel => exact ⟨2, by omega, rfl, fun _ => HQ.out.1 (by omega), fun _ => HR.out, fun g => absurd g (by omega), fun g => absurd g (by omega), HB9.out⟩
        case measure => simp [intOf]
    · obtain ⟨r, hr⟩ : ∃ r, Pure.fitR n F = r := ⟨_, rfl⟩
      have HR := Lib.hid hr
      clear hr
      obtain ⟨U, hU⟩ : ∃ U, wr.alloc (.cells #[.func (.func 54) #[] #[]] 93) = U := ⟨_, rfl⟩
      have HBU0 : Hid (Below W.heap.size W U) := Lib.hid (by rw [← hU]; exact below_thn HBk.out (below_new _ _))
      have HXU : Hid (U.heap[w.heap.size]? = some (watchB h a n c)) := Lib.hid (by rw [← hU]; exact heap_up HX2.out _)
      have HF : Hid (U.heap[wr.heap.size]? = some (.cells #[.func (.func 54) #[] #[]] 93)) := Lib.hid (by rw [← hU]; exact heap_top _ _ rfl)
      have HBU := Lib.hid (HBL.out _ HBU0.out)
      have k0 := heap_cell HXU.out (j := 0) rfl
      have k1 := heap_cell HXU.out (j := 1) rfl
      have kf := heap_cell HF.out (j := 0) rfl
      have hidx := qIdx2 wr
      go_upto_region 4 with fail
      try rw [hU]
      clear hU
      go_wp2_with fail
      refine (ricksFit_any h a n c F hn _ (HP.out.below HBU.out)).mono ?_
      rintro e u ⟨rfl, hb⟩
      rw [HR.out]
      have HB9 := Lib.hid (below_thn HBU0.out hb)
      clear hb kf k0 k1
      cases r
      · go_wp2_with fail
        go_ret
        exact ⟨ret_int (by simp [Pure.err, Pure.watch, HR.out]), HBL.out _ HB9.out⟩
      · go_wp2_with fail
        go_roundw
        case rel => exact ⟨3, by omega, rfl, fun _ => HQ.out.1 (by omega), fun _ => HQ.out.2.1 (by omega), fun _ => HR.out, fun g => absurd g (by omega), HB9.out⟩
        case measure => simp [intOf]
    · obtain ⟨r, hr⟩ : ∃ r, Pure.ordR n F = r := ⟨_, rfl⟩
      have HR := Lib.hid hr
      clear hr
      obtain ⟨U, hU⟩ : ∃ U, wr.alloc (.cells #[.func (.func 55) #[] #[]] 93) = U := ⟨_, rfl⟩
      have HBU0 : Hid (Below W.heap.size W U) := Lib.hid (by rw [← hU]; exact below_thn HBk.out (below_new _ _))
      have HXU : Hid (U.heap[w.heap.size]? = some (watchB h a n c)) := Lib.hid (by rw [← hU]; exact heap_up HX2.out _)
      have HF : Hid (U.heap[wr.heap.size]? = some (.cells #[.func (.func 55) #[] #[]] 93)) := Lib.hid (by rw [← hU]; exact heap_top _ _ rfl)
      have HBU := Lib.hid (HBL.out _ HBU0.out)
      have k0 := heap_cell HXU.out (j := 0) rfl
      have k1 := heap_cell HXU.out (j := 1) rfl
      have kf := heap_cell HF.out (j := 0) rfl
      have hidx := qIdx3 wr
      go_upto_region 4 with fail
      try rw [hU]
      clear hU
      go_wp2_with fail
      refine (ricksInOrder_any h a n c F hn _ (HP.out.below HBU.out)).mono ?_
      rintro e u ⟨rfl, hb⟩
      rw [HR.out]
      have HB9 := Lib.hid (below_thn HBU0.out hb)
      clear hb kf k0 k1
      cases r
      · go_wp2_with fail
        go_ret
        exact ⟨ret_int (by simp [Pure.err, Pure.watch, HR.out]), HBL.out _ HB9.out⟩
      · go_wp2_with fail
        go_roundw
        case rel => exact ⟨4, by omega, rfl, fun _ => HQ.out.1 (by omega), fun _ => HQ.out.2.1 (by omega), fun _ => HQ.out.2.2.1 (by omega), fun _ => HR.out, HB9.out⟩
        case measure => simp [intOf]
    · go_wp2_with fail
      go_ret
      exact ⟨ret_int (by simp [Pure.err, Pure.watch, HQ.out.1 (by omega), HQ.out.2.1 (by omega), HQ.out.2.2.1 (by omega), HQ.out.2.2.2 (by omega)]), HBL.out _ HBk.out⟩

end Go.Proofs.Yteoakchcomodgaa
