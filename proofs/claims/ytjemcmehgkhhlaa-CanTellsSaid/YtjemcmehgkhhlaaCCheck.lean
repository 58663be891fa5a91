/-
  The contracts of the four questions, and of Check.
-/
import Derived.Test.YtjemcmehgkhhlaaCApp
namespace Go.Proofs.Ytjemcmehgkhhlaa
open Go.RowKit

namespace Pure
def fewC (n m : Nat) : Bool := decide (1 ≤ (n : Int) ∧ (n : Int) ≤ 3) && decide (m = n)
def sizesC (n : Nat) (A : Nat → Int) : Bool := inSpan 1 20 n A
def holdC (m : Nat) (A B : Nat → Int) : Bool := decide (∀ j, j < m → 0 ≤ B j ∧ B j ≤ A j)
def stockC (k : Int) : Bool := decide (0 ≤ k ∧ k ≤ 600)
def cans (n : Nat) (A : Nat → Int) (m : Nat) (B : Nat → Int) (k : Int) : Bool := fewC n m && sizesC n A && holdC m A B && stockC k
end Pure
theorem first_new (w : World) (v : Value) (t : TypeId) : (w.alloc (.cells #[v] t)).cell? ⟨w.heap.size, 0, none⟩ = some v := first_cell w v t rfl

set_option maxHeartbeats 2000000 in
set_option maxRecDepth 100000 in
theorem fewCans_any (a : Option Addr) (n c : Nat) (b : Option Addr) (m d : Nat) (k : Int) (w : World) : Calls Try.prog 31 #[cansV a n c b m d k] w fun e w' => e = .returned (.bool (Pure.fewC n m)) ∧ Below w.heap.size w w' := by
  unfold Pure.fewC
  obtain ⟨W, hW⟩ : ∃ W, w.alloc (cansB a n c b m d k) = W := ⟨_, rfl⟩
  have HB : Hid (Below w.heap.size w W) := Lib.hid (by rw [← hW]; exact below_new _ _)
  have HX : Hid (W.heap[w.heap.size]? = some (cansB a n c b m d k)) := Lib.hid (by rw [← hW]; exact heap_top _ _ rfl)
  have x0 := heap_cell HX.out (j := 0) rfl
  have x1 := heap_cell HX.out (j := 1) rfl
  obtain ⟨r, hr⟩ : ∃ r, decide (1 ≤ (n : Int) ∧ (n : Int) ≤ 3) = r := ⟨_, rfl⟩
  rw [hr]
  have HR := Lib.hid hr
  clear hr
  go_enter Try.func31, Try.ntmps31
  go_upto_region 1 with fail
  try rw [hW]
  clear hW
  go_wp2_with fail
  refine (within1 1 3 n W.heap.size _ _ (first_new _ _ _) r HR.out).mono ?_
  rintro e w' ⟨rfl, rfl⟩
  obtain ⟨U, hU⟩ : ∃ U, (W.alloc (.cells #[.int .i64 (n : Int)] 3)).alloc (spanB 1 3) = U := ⟨_, rfl⟩
  have hbu : Below W.heap.size W U := by rw [← hU]; exact (below_new _ _).alloc (by simp) _
  have HXU := Lib.hid (heap_lft HX.out hbu)
  have HBU := Lib.hid (below_thn HB.out hbu)
  try rw [hU]
  clear hU hbu x0 x1
  have x0 := heap_cell HXU.out (j := 0) rfl
  have x1 := heap_cell HXU.out (j := 1) rfl
  cases r
  · go_wp2_with fail
    go_ret
    exact ⟨ret_bool (by simp), HBU.out⟩
  · by_cases he : m = n
    · have he' : ((m : Int) == n) = true := by rw [he]; simp
      have HE := Lib.hid he
      clear he
      go_wp2_with fail
      go_ret
      exact ⟨ret_bool (by simp [HE.out]), HBU.out⟩
    · have he' : ((m : Int) == n) = false := beq_eq_false_iff_ne.2 (by omega)
      have HE := Lib.hid he
      clear he
      go_wp2_with fail
      go_ret
      exact ⟨ret_bool (by simp [HE.out]), HBU.out⟩
set_option maxHeartbeats 2000000 in
set_option maxRecDepth 100000 in
theorem sizesFit_any (a : Option Addr) (n c : Nat) (b : Option Addr) (m d : Nat) (k : Int) (A : Nat → Int) (hn : n ≤ 60) (w : World) (hA : NumsAt w a n A) : Calls Try.prog 32 #[cansV a n c b m d k] w fun e w' => e = .returned (.bool (Pure.sizesC n A)) ∧ Below w.heap.size w w' := by
  unfold Pure.sizesC
  obtain ⟨W, hW⟩ : ∃ W, w.alloc (cansB a n c b m d k) = W := ⟨_, rfl⟩
  have HB : Hid (Below w.heap.size w W) := Lib.hid (by rw [← hW]; exact below_new _ _)
  have HX : Hid (W.heap[w.heap.size]? = some (cansB a n c b m d k)) := Lib.hid (by rw [← hW]; exact heap_top _ _ rfl)
  have HA := Lib.hid (hA.below HB.out)
  clear hA
  have x0 := heap_cell HX.out (j := 0) rfl
  go_enter Try.func32, Try.ntmps32
  go_upto_region 1 with fail
  try rw [hW]
  clear hW
  go_wp2_with fail
  refine (within_nums 1 20 a n c A (by omega) _ HA.out).mono ?_
  rintro e w' ⟨rfl, rfl⟩
  go_wp2_with fail
  go_ret
  exact ⟨rfl, below_thn HB.out (below_new _ _)⟩
set_option maxHeartbeats 2000000 in
set_option maxRecDepth 100000 in
theorem tankHolds_any (a : Option Addr) (n c : Nat) (b : Option Addr) (m d : Nat) (k : Int) (w : World) : Calls Try.prog 34 #[cansV a n c b m d k] w fun e w' => e = .returned (.bool (Pure.stockC k)) ∧ Below w.heap.size w w' := by
  unfold Pure.stockC
  obtain ⟨r, hr⟩ : ∃ r, decide (0 ≤ k ∧ k ≤ 600) = r := ⟨_, rfl⟩
  rw [hr]
  have HR := Lib.hid hr
  clear hr
  obtain ⟨W, hW⟩ : ∃ W, w.alloc (cansB a n c b m d k) = W := ⟨_, rfl⟩
  have HB : Hid (Below w.heap.size w W) := Lib.hid (by rw [← hW]; exact below_new _ _)
  have HX : Hid (W.heap[w.heap.size]? = some (cansB a n c b m d k)) := Lib.hid (by rw [← hW]; exact heap_top _ _ rfl)
  have x2 := heap_cell HX.out (j := 2) rfl
  go_enter Try.func34, Try.ntmps34
  go_upto_region 1 with fail
  try rw [hW]
  clear hW
  go_wp2_with fail
  refine (within1 0 600 k W.heap.size _ _ (first_new _ _ _) r HR.out).mono ?_
  rintro e w' ⟨rfl, rfl⟩
  go_wp2_with fail
  go_ret
  exact ⟨rfl, below_thn HB.out ((below_new _ _).alloc (by simp) _)⟩
set_option maxHeartbeats 2000000 in
set_option maxRecDepth 100000 in
theorem cansHold_any (a : Option Addr) (n c : Nat) (b : Option Addr) (m d : Nat) (k : Int) (A B : Nat → Int) (hn : n ≤ 60) (hmn : m = n) (w : World) (hA : NumsAt w a n A) (hB : NumsAt w b m B) : Calls Try.prog 33 #[cansV a n c b m d k] w fun e w' => e = .returned (.bool (Pure.holdC m A B)) ∧ Below w.heap.size w w' := by
  unfold Pure.holdC
  obtain ⟨W, hW⟩ : ∃ W, w.alloc (cansB a n c b m d k) = W := ⟨_, rfl⟩
  have HB : Hid (Below w.heap.size w W) := Lib.hid (by rw [← hW]; exact below_new _ _)
  have HX : Hid (W.heap[w.heap.size]? = some (cansB a n c b m d k)) := Lib.hid (by rw [← hW]; exact heap_top _ _ rfl)
  have HA := Lib.hid (hA.below HB.out)
  have HBB := Lib.hid (hB.below HB.out)
  have HMN := Lib.hid hmn
  clear hA hB hmn
  have x1 := heap_cell HX.out (j := 1) rfl
  go_enter Try.func33, Try.ntmps33
  go_upto_region 1 with fail
  try rw [hW]
  clear hW
  go_wp2_with fail
  clear x1
  go_loopw [3, 4, 8] (fun _ _ i wr => ∃ j : Nat, j ≤ m ∧ i = .int .i64 j ∧ (∀ q, q < j → 0 ≤ B q ∧ B q ≤ A q) ∧ Below W.heap.size W wr) (fun _ _ i _ => m - (intOf i).toNat)
  case atStart => exact ⟨0, Nat.zero_le _, rfl, fun q hq => by omega, Below.refl _ _⟩
  case round =>
    obtain ⟨j, hj, rfl, hq, hb⟩ := hrel
    have HQ := Lib.hid hq
    have HBx := Lib.hid hb
    have HXx := Lib.hid (heap_lft HX.out hb)
    have HAx := Lib.hid (HA.out.below hb)
    have HBBx := Lib.hid (HBB.out.below hb)
    clear hq hb
    by_cases hlt : j < m
    · have hjn : j < n := by have := HMN.out; omega
      obtain ⟨g, off, h9, _⟩ := HAx.out j hjn
      obtain ⟨g', off', h8, _⟩ := HBBx.out j hlt
      subst h9
      subst h8
      have n1 : (j : Int) < m := by omega
      have n2 : (j : Int) < n := by omega
      have e0 := HAx.out.at hjn
      have e1 := HBBx.out.at hlt
      have x0 := heap_cell HXx.out (j := 0) rfl
      obtain ⟨r, hr⟩ : ∃ r, decide (0 ≤ B j ∧ B j ≤ A j) = r := ⟨_, rfl⟩
      have HR := Lib.hid hr
      clear hr
      go_wp2_with fail
      refine (within1 0 (A j) (B j) wr.heap.size _ _ (first_new _ _ _) r HR.out).mono ?_
      rintro e w' ⟨rfl, rfl⟩
      have HB9 : Hid (Below W.heap.size W ((wr.alloc (.cells #[.int .i64 (B j)] 3)).alloc (spanB 0 (A j)))) := Lib.hid (below_thn HBx.out ((below_new _ _).alloc (by simp) _))
      clear e0 e1 x0
      cases r
      · go_wp2_with fail
        go_ret
        exact ⟨ret_bool (decide_eq_false (fun g => of_decide_eq_false HR.out (g j hlt))).symm, below_thn HB.out HB9.out⟩
      · go_wp2_with fail
        go_roundw
        case rel => exact ⟨j + 1, by omega, by go_num, fun q hq => by
          by_cases e : q = j
          · subst e; exact of_decide_eq_true HR.out
          · exact HQ.out q (by omega), HB9.out⟩
        case measure => simp [intOf]; omega
    · obtain rfl : m = j := by omega
      have n1 : ¬ (m : Int) < m := by omega
      go_wp2_with fail
      go_ret
      exact ⟨ret_bool (decide_eq_true HQ.out).symm, below_thn HB.out HBx.out⟩

abbrev questionsV : Value := .agg #[.func (.func 31) #[] #[], .func (.func 32) #[] #[], .func (.func 33) #[] #[], .func (.func 34) #[] #[]]
theorem qIdx0 (w : World) : (Instr.index 63 questionsV (.int .i64 0)).run Try.prog w = .ok (.agg #[.func (.func 31) #[] #[]]) w := by kernel_rfl
theorem qIdx1 (w : World) : (Instr.index 63 questionsV (.int .i64 1)).run Try.prog w = .ok (.agg #[.func (.func 32) #[] #[]]) w := by kernel_rfl
theorem qIdx2 (w : World) : (Instr.index 63 questionsV (.int .i64 2)).run Try.prog w = .ok (.agg #[.func (.func 33) #[] #[]]) w := by kernel_rfl
theorem qIdx3 (w : World) : (Instr.index 63 questionsV (.int .i64 3)).run Try.prog w = .ok (.agg #[.func (.func 34) #[] #[]]) w := by kernel_rfl
theorem questions_any (w : World) : Calls Try.prog 24 #[] w fun e w' => e = .returned questionsV ∧ Below w.heap.size w w' := by
  go_enter Try.func24, Try.ntmps24
  go_wp2_with fail
  refine bodyPost_ret (v := questionsV) (by simp [results, Try.results24, go_sem]) rfl ⟨rfl, ?_⟩
  repeat (first | exact Below.refl _ _ | refine Below.setCell ?_ (by simp) _ | refine Below.alloc ?_ (by simp; try omega) _)

set_option maxHeartbeats 8000000 in
set_option maxRecDepth 100000 in
/-- **Check**. -/
theorem check_any (a : Option Addr) (n c : Nat) (b : Option Addr) (m d : Nat) (k : Int) (A B : Nat → Int) (hn : n ≤ 60) (_hm : m ≤ 60) (w : World) (hA : NumsAt w a n A) (hB : NumsAt w b m B) :
    Calls Try.prog 11 #[cansV a n c b m d k] w fun e w' => e = .returned (.int .i64 (Pure.err (Pure.cans n A m B k) 80)) ∧ Below w.heap.size w w' := by
  have HA := Lib.hid hA
  have HBB := Lib.hid hB
  clear hA hB
  go_enter Try.func11, Try.ntmps11
  go_wp2_with fail
  refine (questions_any _).mono ?_
  rintro e W ⟨rfl, hb⟩
  have HB := Lib.hid ((below_new w (cansB a n c b m d k)).trans (hb.mono (by simp)))
  have HX := Lib.hid (heap_lft (heap_top w (cansB a n c b m d k) rfl) hb)
  clear hb
  go_wp2_with fail
  go_loopw [4, 6] (fun _ i wr => ∃ q : Nat, q ≤ 4 ∧ i = .int .i64 q ∧ (1 ≤ q → Pure.fewC n m = true) ∧ (2 ≤ q → Pure.sizesC n A = true) ∧ (3 ≤ q → Pure.holdC m A B = true) ∧ (4 ≤ q → Pure.stockC k = true) ∧ Below W.heap.size W wr) (fun _ i _ => 4 - (intOf i).toNat)
  case atStart => exact ⟨0, by omega, rfl, by omega, by omega, by omega, by omega, Below.refl _ _⟩
  case round =>
    obtain ⟨q, hq, rfl, q0, q1, q2, q3, hb⟩ := hrel
    have HQ := Lib.hid (And.intro q0 (And.intro q1 (And.intro q2 q3)))
    have HX2 := Lib.hid (heap_lft HX.out hb)
    have HBk := Lib.hid hb
    have hbl : ∀ W', Below W.heap.size W W' → Below w.heap.size w W' := fun W' g => below_thn HB.out g
    have HBL := Lib.hid hbl
    clear q0 q1 q2 q3 hb hbl
    have hs1 : w.heap.size < wr.heap.size := (Array.getElem?_eq_some_iff.1 HX2.out).1
    have hk5 : q = 0 ∨ q = 1 ∨ q = 2 ∨ q = 3 ∨ q = 4 := by omega
    rcases hk5 with rfl | rfl | rfl | rfl | rfl
    · obtain ⟨r, hr⟩ : ∃ r, Pure.fewC n m = r := ⟨_, rfl⟩
      have HR := Lib.hid hr
      clear hr
      obtain ⟨U, hU⟩ : ∃ U, wr.alloc (.cells #[.func (.func 31) #[] #[]] 62) = U := ⟨_, rfl⟩
      have HBU0 : Hid (Below W.heap.size W U) := Lib.hid (by rw [← hU]; exact below_thn HBk.out (below_new _ _))
      have HXU : Hid (U.heap[w.heap.size]? = some (cansB a n c b m d k)) := Lib.hid (by rw [← hU]; exact heap_up HX2.out _)
      have HF : Hid (U.heap[wr.heap.size]? = some (.cells #[.func (.func 31) #[] #[]] 62)) := Lib.hid (by rw [← hU]; exact heap_top _ _ rfl)
      have HBU := Lib.hid (HBL.out _ HBU0.out)
      have k0 := heap_cell HXU.out (j := 0) rfl
      have k1 := heap_cell HXU.out (j := 1) rfl
      have k2 := heap_cell HXU.out (j := 2) rfl
      have kf := heap_cell HF.out (j := 0) rfl
      have hidx := qIdx0 wr
      go_upto_region 4 with fail
      try rw [hU]
      clear hU
      go_wp2_with fail
      refine (fewCans_any a n c b m d k _).mono ?_
      rintro e u ⟨rfl, hb⟩
      rw [HR.out]
      have HB9 := Lib.hid (below_thn HBU0.out hb)
      clear hb kf k0 k1 k2
      cases r
      · go_wp2_with fail
        go_ret
        exact ⟨ret_int (by simp [Pure.err, Pure.cans, HR.out]), HBL.out _ HB9.out⟩
      · go_wp2_with fail
        go_roundw
        case rel => exact ⟨1, by omega, rfl, fun _ => HR.out, fun g => absurd g (by omega), fun g => absurd g (by omega), fun g => absurd g (by omega), HB9.out⟩
        case measure => simp [intOf]
    · obtain ⟨r, hr⟩ : ∃ r, Pure.sizesC n A = r := ⟨_, rfl⟩
      have HR := Lib.hid hr
      clear hr
      obtain ⟨U, hU⟩ : ∃ U, wr.alloc (.cells #[.func (.func 32) #[] #[]] 62) = U := ⟨_, rfl⟩
      have HBU0 : Hid (Below W.heap.size W U) := Lib.hid (by rw [← hU]; exact below_thn HBk.out (below_new _ _))
      have HXU : Hid (U.heap[w.heap.size]? = some (cansB a n c b m d k)) := Lib.hid (by rw [← hU]; exact heap_up HX2.out _)
      have HF : Hid (U.heap[wr.heap.size]? = some (.cells #[.func (.func 32) #[] #[]] 62)) := Lib.hid (by rw [← hU]; exact heap_top _ _ rfl)
      have HBU := Lib.hid (HBL.out _ HBU0.out)
      have k0 := heap_cell HXU.out (j := 0) rfl
      have k1 := heap_cell HXU.out (j := 1) rfl
      have k2 := heap_cell HXU.out (j := 2) rfl
      have kf := heap_cell HF.out (j := 0) rfl
      have hidx := qIdx1 wr
      go_upto_region 4 with fail
      try rw [hU]
      clear hU
      go_wp2_with fail
      refine (sizesFit_any a n c b m d k A hn _ (HA.out.below HBU.out)).mono ?_
      rintro e u ⟨rfl, hb⟩
      rw [HR.out]
      have HB9 := Lib.hid (below_thn HBU0.out hb)
      clear hb kf k0 k1 k2
      cases r
      · go_wp2_with fail
        go_ret
        exact ⟨ret_int (by simp [Pure.err, Pure.cans, HR.out]), HBL.out _ HB9.out⟩
      · go_wp2_with fail
        go_roundw
        case rel => exact ⟨2, by omega, rfl, fun _ => HQ.out.1 (by omega), fun _ => HR.out, fun g => absurd g (by omega), fun g => absurd g (by omega), HB9.out⟩
        case measure => simp [intOf]
    · have HMN : Hid (m = n) := Lib.hid (by have h := HQ.out.1 (by omega); unfold Pure.fewC at h; simp at h; omega)
      obtain ⟨r, hr⟩ : ∃ r, Pure.holdC m A B = r := ⟨_, rfl⟩
      have HR := Lib.hid hr
      clear hr
      obtain ⟨U, hU⟩ : ∃ U, wr.alloc (.cells #[.func (.func 33) #[] #[]] 62) = U := ⟨_, rfl⟩
      have HBU0 : Hid (Below W.heap.size W U) := Lib.hid (by rw [← hU]; exact below_thn HBk.out (below_new _ _))
      have HXU : Hid (U.heap[w.heap.size]? = some (cansB a n c b m d k)) := Lib.hid (by rw [← hU]; exact heap_up HX2.out _)
      have HF : Hid (U.heap[wr.heap.size]? = some (.cells #[.func (.func 33) #[] #[]] 62)) := Lib.hid (by rw [← hU]; exact heap_top _ _ rfl)
      have HBU := Lib.hid (HBL.out _ HBU0.out)
      have k0 := heap_cell HXU.out (j := 0) rfl
      have k1 := heap_cell HXU.out (j := 1) rfl
      have k2 := heap_cell HXU.out (j := 2) rfl
      have kf := heap_cell HF.out (j := 0) rfl
      have hidx := qIdx2 wr
      go_upto_region 4 with fail
      try rw [hU]
      clear hU
      go_wp2_with fail
      refine (cansHold_any a n c b m d k A B hn HMN.out _ (HA.out.below HBU.out) (HBB.out.below HBU.out)).mono ?_
      rintro e u ⟨rfl, hb⟩
      rw [HR.out]
      have HB9 := Lib.hid (below_thn HBU0.out hb)
      clear hb kf k0 k1 k2
      cases r
      · go_wp2_with fail
        go_ret
        exact ⟨ret_int (by simp [Pure.err, Pure.cans, HR.out]), HBL.out _ HB9.out⟩
      · go_wp2_with fail
        go_roundw
        case rel => exact ⟨3, by omega, rfl, fun _ => HQ.out.1 (by omega), fun _ => HQ.out.2.1 (by omega), fun _ => HR.out, fun g => absurd g (by omega), HB9.out⟩
        case measure => simp [intOf]
    · obtain ⟨r, hr⟩ : ∃ r, Pure.stockC k = r := ⟨_, rfl⟩
      have HR := Lib.hid hr
      clear hr
      obtain ⟨U, hU⟩ : ∃ U, wr.alloc (.cells #[.func (.func 34) #[] #[]] 62) = U := ⟨_, rfl⟩
      have HBU0 : Hid (Below W.heap.size W U) := Lib.hid (by rw [← hU]; exact below_thn HBk.out (below_new _ _))
      have HXU : Hid (U.heap[w.heap.size]? = some (cansB a n c b m d k)) := Lib.hid (by rw [← hU]; exact heap_up HX2.out _)
      have HF : Hid (U.heap[wr.heap.size]? = some (.cells #[.func (.func 34) #[] #[]] 62)) := Lib.hid (by rw [← hU]; exact heap_top _ _ rfl)
      have HBU := Lib.hid (HBL.out _ HBU0.out)
      have k0 := heap_cell HXU.out (j := 0) rfl
      have k1 := heap_cell HXU.out (j := 1) rfl
      have k2 := heap_cell HXU.out (j := 2) rfl
      have kf := heap_cell HF.out (j := 0) rfl
      have hidx := qIdx3 wr
      go_upto_region 4 with fail
      try rw [hU]
      clear hU
      go_wp2_with fail
      refine (tankHolds_any a n c b m d k _).mono ?_
      rintro e u ⟨rfl, hb⟩
      rw [HR.out]
      have HB9 := Lib.hid (below_thn HBU0.out hb)
      clear hb kf k0 k1 k2
      cases r
      · go_wp2_with fail
        go_ret
        exact ⟨ret_int (by simp [Pure.err, Pure.cans, HR.out]), HBL.out _ HB9.out⟩
      · go_wp2_with fail
        go_roundw
        case rel => exact ⟨4, by omega, rfl, fun _ => HQ.out.1 (by omega), fun _ => HQ.out.2.1 (by omega), fun _ => HQ.out.2.2.1 (by omega), fun _ => HR.out, HB9.out⟩
        case measure => simp [intOf]
    · go_wp2_with fail
      go_ret
      exact ⟨ret_int (by simp [Pure.err, Pure.cans, HQ.out.1 (by omega), HQ.out.2.1 (by omega), HQ.out.2.2.1 (by omega), HQ.out.2.2.2 (by omega)]), HBL.out _ HBk.out⟩

end Go.Proofs.Ytjemcmehgkhhlaa
