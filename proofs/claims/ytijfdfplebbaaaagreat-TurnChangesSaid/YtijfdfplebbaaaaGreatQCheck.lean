/-
  The contracts of the demands, and of Check.
-/
import Derived.Test.YtijfdfplebbaaaaGreatQNote
namespace Go.Proofs.YtijfdfplebbaaaaGreat
open Go.RowKit

namespace Pure
def fitW (n : Nat) (F : Nat → Int) (m : Nat) (G : Nat → Int) : Bool := !(List.range m).any (fun j => wrongW n F (G (j * 5)) (G (j * 5 + 1)) (G (j * 5 + 2)) (G (j * 5 + 3)) (G (j * 5 + 4)))
def ordW (m : Nat) (G : Nat → Int) : Bool := inOrder (fun j => decide (G (j * 5) < G ((j + 1) * 5))) m
def press (n : Nat) (F : Nat → Int) (m : Nat) (G : Nat → Int) : Bool := fewP n m && fitP n F && ordP n F && leadP n F && fitW n F m G && ordW m G
end Pure

theorem d1_any (a : Option Addr) (n c : Nat) (b : Option Addr) (m d : Nat) (w : World) : Calls Tryz.prog 65 #[pressV a n c b m d] w fun e w' => e = .returned (.bool (Pure.fewP n m)) ∧ Below w.heap.size w w' := by
  unfold Pure.fewP
  go_enter Tryz.func65, Tryz.ntmps65
  by_cases h : (n : Int) ≤ 10
  · go_wp2_with fail
    go_ret
    exact ⟨ret_bool (by simp [h]), below_new _ _⟩
  · go_wp2_with fail
    go_ret
    exact ⟨ret_bool (by rw [decide_eq_false (show ¬ (n : Int) ≤ 10 by omega)]; rfl), below_new _ _⟩
theorem noteOrder_any (n p k lo hi n' p' k' lo' hi' : Int) (w : World) : Calls Tryz.prog 79 #[noteV n p k lo hi, noteV n' p' k' lo' hi'] w fun x w' => x = .returned (.bool (decide (n < n'))) ∧ Below w.heap.size w w' := by
  go_enter Tryz.func79, Tryz.ntmps79
  go_wp2_with fail
  go_ret
  exact ⟨rfl, by repeat (first | exact Below.refl _ _ | refine Below.alloc ?_ (by simp; try omega) _)⟩
set_option maxHeartbeats 1000000 in
theorem noteWrong_any (B : Nat) (a : Option Addr) (n c : Nat) (b : Option Addr) (m d : Nat) (F : Nat → Int) (num pr k lo hi : Int) (hn : n ≤ 60) (w : World) (hF : NumsAt w a (n * 4) F) (hB : w.heap[B]? = some (pressB a n c b m d)) :
    Calls Tryz.prog 75 #[noteV num pr k lo hi, .pointer (some ⟨B, 0, none⟩)] w fun x w' => x = .returned (.bool (Pure.wrongW n F num pr k lo hi)) ∧ Below w.heap.size w w' := by
  have hx := heap_up hB (noteB num pr k lo hi)
  have k0 := heap_cell hx (j := 0) rfl
  have k1 := heap_cell hx (j := 1) rfl
  have HP := Lib.hid (hF.below (below_new w (noteB num pr k lo hi)))
  clear hx hF hB
  go_enter Tryz.func75, Tryz.ntmps75
  go_wp2_with fail
  refine (wrongW_any a n c b m d F num pr k lo hi hn _ HP.out).mono ?_
  rintro e u ⟨rfl, hb⟩
  have HB := Lib.hid (below_thn (below_new _ _) hb)
  clear hb k0 k1
  go_wp2_with fail
  go_ret
  exact ⟨rfl, HB.out⟩
set_option maxHeartbeats 1000000 in
theorem d2_any (a : Option Addr) (n c : Nat) (b : Option Addr) (m d : Nat) (F G : Nat → Int) (hn : n ≤ 60) (_hm : m ≤ 60) (w : World) (hF : NumsAt w a (n * 4) F) (hG : NumsAt w b (m * 5) G) : Calls Tryz.prog 66 #[pressV a n c b m d] w fun e w' => e = .returned (.bool (Pure.fitP n F)) ∧ Below w.heap.size w w' := by
  have HP := Lib.hid hF
  have HG := Lib.hid hG
  clear hF hG
  obtain ⟨W, hW⟩ : ∃ W, w.alloc (pressB a n c b m d) = W := ⟨_, rfl⟩
  have HB : Hid (Below w.heap.size w W) := Lib.hid (by rw [← hW]; exact below_new _ _)
  have HX : Hid (W.heap[w.heap.size]? = some (pressB a n c b m d)) := Lib.hid (by rw [← hW]; exact heap_top _ _ rfl)
  have x0 := heap_cell HX.out (j := 0) rfl
  go_enter Tryz.func66, Tryz.ntmps66
  go_upto_region 1 with fail
  try rw [hW]
  clear hW
  go_wp2_with fail
  refine (containsWrong_any a n c F (fun j => Pure.wrongP (F (j * 4)) (F (j * 4 + 1)) (F (j * 4 + 2))) hn _ (HP.out.below HB.out) (fun u j hj hb => wrongP_any _ _ _ _ u)).mono ?_
  rintro e w2 ⟨rfl, hb⟩
  have HB2 := Lib.hid (below_thn HB.out hb)
  clear hb x0
  go_wp2_with fail
  go_ret
  exact ⟨ret_bool (by simp [Pure.fitP]), HB2.out⟩
set_option maxHeartbeats 1000000 in
theorem d3_any (a : Option Addr) (n c : Nat) (b : Option Addr) (m d : Nat) (F G : Nat → Int) (hn : n ≤ 60) (_hm : m ≤ 60) (w : World) (hF : NumsAt w a (n * 4) F) (hG : NumsAt w b (m * 5) G) : Calls Tryz.prog 69 #[pressV a n c b m d] w fun e w' => e = .returned (.bool (Pure.ordP n F)) ∧ Below w.heap.size w w' := by
  have HP := Lib.hid hF
  have HG := Lib.hid hG
  clear hF hG
  obtain ⟨W, hW⟩ : ∃ W, w.alloc (pressB a n c b m d) = W := ⟨_, rfl⟩
  have HB : Hid (Below w.heap.size w W) := Lib.hid (by rw [← hW]; exact below_new _ _)
  have HX : Hid (W.heap[w.heap.size]? = some (pressB a n c b m d)) := Lib.hid (by rw [← hW]; exact heap_top _ _ rfl)
  have x0 := heap_cell HX.out (j := 0) rfl
  go_enter Tryz.func69, Tryz.ntmps69
  go_upto_region 1 with fail
  try rw [hW]
  clear hW
  go_wp2_with fail
  refine (inOrderRing_any a n c F (fun j => decide (F (j * 4) < F ((j + 1) * 4)) && decide (F (j * 4 + 1) ≤ F ((j + 1) * 4 + 1))) hn _ (HP.out.below HB.out) (fun u j hj hb => follows_any _ _ _ _ _ _ _ _ u)).mono ?_
  rintro e w2 ⟨rfl, hb⟩
  have HB2 := Lib.hid (below_thn HB.out hb)
  clear hb x0
  go_wp2_with fail
  go_ret
  exact ⟨rfl, HB2.out⟩
set_option maxHeartbeats 1000000 in
theorem d4_any (a : Option Addr) (n c : Nat) (b : Option Addr) (m d : Nat) (F G : Nat → Int) (hn : n ≤ 60) (hm : m ≤ 60) (w : World) (hF : NumsAt w a (n * 4) F) (hG : NumsAt w b (m * 5) G) : Calls Tryz.prog 73 #[pressV a n c b m d] w fun e w' => e = .returned (.bool (Pure.fitW n F m G)) ∧ Below w.heap.size w w' := by
  have HP := Lib.hid hF
  have HG := Lib.hid hG
  clear hF hG
  obtain ⟨W, hW⟩ : ∃ W, w.alloc (pressB a n c b m d) = W := ⟨_, rfl⟩
  have HB : Hid (Below w.heap.size w W) := Lib.hid (by rw [← hW]; exact below_new _ _)
  have HX : Hid (W.heap[w.heap.size]? = some (pressB a n c b m d)) := Lib.hid (by rw [← hW]; exact heap_top _ _ rfl)
  have x1 := heap_cell HX.out (j := 1) rfl
  go_enter Tryz.func73, Tryz.ntmps73
  go_upto_region 1 with fail
  try rw [hW]
  clear hW
  go_wp2_with fail
  refine (containsNote_any w.heap.size b m d G (fun j => Pure.wrongW n F (G (j * 5)) (G (j * 5 + 1)) (G (j * 5 + 2)) (G (j * 5 + 3)) (G (j * 5 + 4))) hm _ (HG.out.below HB.out) (fun u j hj hb => noteWrong_any w.heap.size a n c b m d F _ _ _ _ _ hn u (HP.out.below (below_thn HB.out hb)) (heap_lft HX.out hb))).mono ?_
  rintro e w2 ⟨rfl, hb⟩
  have HB2 := Lib.hid (below_thn HB.out hb)
  clear hb x1
  go_wp2_with fail
  go_ret
  exact ⟨ret_bool (by simp [Pure.fitW]), HB2.out⟩
set_option maxHeartbeats 1000000 in
theorem d5_any (a : Option Addr) (n c : Nat) (b : Option Addr) (m d : Nat) (F G : Nat → Int) (_hn : n ≤ 60) (hm : m ≤ 60) (w : World) (hF : NumsAt w a (n * 4) F) (hG : NumsAt w b (m * 5) G) : Calls Tryz.prog 77 #[pressV a n c b m d] w fun e w' => e = .returned (.bool (Pure.ordW m G)) ∧ Below w.heap.size w w' := by
  have HP := Lib.hid hF
  have HG := Lib.hid hG
  clear hF hG
  obtain ⟨W, hW⟩ : ∃ W, w.alloc (pressB a n c b m d) = W := ⟨_, rfl⟩
  have HB : Hid (Below w.heap.size w W) := Lib.hid (by rw [← hW]; exact below_new _ _)
  have HX : Hid (W.heap[w.heap.size]? = some (pressB a n c b m d)) := Lib.hid (by rw [← hW]; exact heap_top _ _ rfl)
  have x1 := heap_cell HX.out (j := 1) rfl
  go_enter Tryz.func77, Tryz.ntmps77
  go_upto_region 1 with fail
  try rw [hW]
  clear hW
  go_wp2_with fail
  refine (inOrderNote_any b m d G (fun j => decide (G (j * 5) < G ((j + 1) * 5))) hm _ (HG.out.below HB.out) (fun u j hj hb => noteOrder_any _ _ _ _ _ _ _ _ _ _ u)).mono ?_
  rintro e w2 ⟨rfl, hb⟩
  have HB2 := Lib.hid (below_thn HB.out hb)
  clear hb x1
  go_wp2_with fail
  go_ret
  exact ⟨rfl, HB2.out⟩

abbrev demandsV : Value := .agg #[.func (.func 65) #[] #[], .func (.func 66) #[] #[], .func (.func 69) #[] #[], .func (.func 72) #[] #[], .func (.func 73) #[] #[], .func (.func 77) #[] #[]]
theorem qIdx0 (w : World) : (Instr.index 105 demandsV (.int .i64 0)).run Tryz.prog w = .ok (.agg #[.func (.func 65) #[] #[]]) w := by kernel_rfl
theorem qIdx1 (w : World) : (Instr.index 105 demandsV (.int .i64 1)).run Tryz.prog w = .ok (.agg #[.func (.func 66) #[] #[]]) w := by kernel_rfl
theorem qIdx2 (w : World) : (Instr.index 105 demandsV (.int .i64 2)).run Tryz.prog w = .ok (.agg #[.func (.func 69) #[] #[]]) w := by kernel_rfl
theorem qIdx3 (w : World) : (Instr.index 105 demandsV (.int .i64 3)).run Tryz.prog w = .ok (.agg #[.func (.func 72) #[] #[]]) w := by kernel_rfl
theorem qIdx4 (w : World) : (Instr.index 105 demandsV (.int .i64 4)).run Tryz.prog w = .ok (.agg #[.func (.func 73) #[] #[]]) w := by kernel_rfl
theorem qIdx5 (w : World) : (Instr.index 105 demandsV (.int .i64 5)).run Tryz.prog w = .ok (.agg #[.func (.func 77) #[] #[]]) w := by kernel_rfl
theorem demands_any (w : World) : Calls Tryz.prog 54 #[] w fun e w' => e = .returned demandsV ∧ Below w.heap.size w w' := by
  go_enter Tryz.func54, Tryz.ntmps54
  go_wp2_with fail
  refine bodyPost_ret (v := demandsV) (by simp [results, Tryz.results54, go_sem]) rfl ⟨rfl, ?_⟩
  repeat (first | exact Below.refl _ _ | refine Below.setCell ?_ (by simp) _ | refine Below.alloc ?_ (by simp; try omega) _)

set_option maxHeartbeats 8000000 in
set_option maxRecDepth 100000 in
/-- **Check**. -/
theorem check_any (a : Option Addr) (n c : Nat) (b : Option Addr) (m d : Nat) (F G : Nat → Int) (hn : n ≤ 60) (hm : m ≤ 60) (w : World) (hF : NumsAt w a (n * 4) F) (hG : NumsAt w b (m * 5) G) :
    Calls Tryz.prog 30 #[pressV a n c b m d] w fun e w' => e = .returned (.int .i64 (Pure.err (Pure.press n F m G) 20)) ∧ Below w.heap.size w w' := by
  have HP := Lib.hid hF
  have HG := Lib.hid hG
  clear hF hG
  go_enter Tryz.func30, Tryz.ntmps30
  go_wp2_with fail
  refine (demands_any _).mono ?_
  rintro e W ⟨rfl, hb⟩
  have HB := Lib.hid ((below_new w (pressB a n c b m d)).trans (hb.mono (by simp)))
  have HX := Lib.hid (heap_lft (heap_top w (pressB a n c b m d) rfl) hb)
  clear hb
  go_wp2_with fail
  go_loopw [4, 6] (fun _ i wr => ∃ k : Nat, k ≤ 6 ∧ i = .int .i64 k ∧ (1 ≤ k → Pure.fewP n m = true) ∧ (2 ≤ k → Pure.fitP n F = true) ∧ (3 ≤ k → Pure.ordP n F = true) ∧ (4 ≤ k → Pure.leadP n F = true) ∧ (5 ≤ k → Pure.fitW n F m G = true) ∧ (6 ≤ k → Pure.ordW m G = true) ∧ Below W.heap.size W wr) (fun _ i _ => 6 - (intOf i).toNat)
  case atStart => exact ⟨0, by omega, rfl, by omega, by omega, by omega, by omega, by omega, by omega, Below.refl _ _⟩
  case round =>
    obtain ⟨k, hk, rfl, q0, q1, q2, q3, q4, q5, hb⟩ := hrel
    have HQ := Lib.hid (And.intro q0 (And.intro q1 (And.intro q2 (And.intro q3 (And.intro q4 (q5))))))
    have HX2 := Lib.hid (heap_lft HX.out hb)
    have HBk := Lib.hid hb
    have hbl : ∀ W', Below W.heap.size W W' → Below w.heap.size w W' := fun W' g => below_thn HB.out g
    have HBL := Lib.hid hbl
    clear q0 q1 q2 q3 q4 q5 hb hbl
    have hs1 : w.heap.size < wr.heap.size := (Array.getElem?_eq_some_iff.1 HX2.out).1
    have hk5 : k = 0 ∨ k = 1 ∨ k = 2 ∨ k = 3 ∨ k = 4 ∨ k = 5 ∨ k = 6 := by omega
    rcases hk5 with rfl | rfl | rfl | rfl | rfl | rfl | rfl
    · obtain ⟨r, hr⟩ : ∃ r, Pure.fewP n m = r := ⟨_, rfl⟩
      have HR := Lib.hid hr
      clear hr
      obtain ⟨U, hU⟩ : ∃ U, wr.alloc (.cells #[.func (.func 65) #[] #[]] 104) = U := ⟨_, rfl⟩
      have HBU0 : Hid (Below W.heap.size W U) := Lib.hid (by rw [← hU]; exact below_thn HBk.out (below_new _ _))
      have HXU : Hid (U.heap[w.heap.size]? = some (pressB a n c b m d)) := Lib.hid (by rw [← hU]; exact heap_up HX2.out _)
      have HF : Hid (U.heap[wr.heap.size]? = some (.cells #[.func (.func 65) #[] #[]] 104)) := Lib.hid (by rw [← hU]; exact heap_top _ _ rfl)
      have HBU := Lib.hid (HBL.out _ HBU0.out)
      have k0 := heap_cell HXU.out (j := 0) rfl
      have k1 := heap_cell HXU.out (j := 1) rfl
      have kf := heap_cell HF.out (j := 0) rfl
      have hidx := qIdx0 wr
      go_upto_region 4 with fail
      try rw [hU]
      clear hU
      go_wp2_with fail
      refine (d1_any a n c b m d _).mono ?_
      rintro e u ⟨rfl, hb⟩
      rw [HR.out]
      have HB9 := Lib.hid (below_thn HBU0.out hb)
      clear hb kf k0 k1
      cases r
      · go_wp2_with fail
        go_ret
        exact ⟨ret_int (by simp [Pure.err, Pure.press, HR.out]), HBL.out _ HB9.out⟩
      · go_wp2_with fail
        go_roundw
        case rel => exact ⟨1, by omega, rfl, fun _ => HR.out, fun g => absurd g (by omega), fun g => absurd g (by omega), fun g => absurd g (by omega), fun g => absurd g (by omega), fun g => absurd g (by omega), HB9.out⟩
        case measure => simp [intOf]
    · obtain ⟨r, hr⟩ : ∃ r, Pure.fitP n F = r := ⟨_, rfl⟩
      have HR := Lib.hid hr
      clear hr
      obtain ⟨U, hU⟩ : ∃ U, wr.alloc (.cells #[.func (.func 66) #[] #[]] 104) = U := ⟨_, rfl⟩
      have HBU0 : Hid (Below W.heap.size W U) := Lib.hid (by rw [← hU]; exact below_thn HBk.out (below_new _ _))
      have HXU : Hid (U.heap[w.heap.size]? = some (pressB a n c b m d)) := Lib.hid (by rw [← hU]; exact heap_up HX2.out _)
      have HF : Hid (U.heap[wr.heap.size]? = some (.cells #[.func (.func 66) #[] #[]] 104)) := Lib.hid (by rw [← hU]; exact heap_top _ _ rfl)
      have HBU := Lib.hid (HBL.out _ HBU0.out)
      have k0 := heap_cell HXU.out (j := 0) rfl
      have k1 := heap_cell HXU.out (j := 1) rfl
      have kf := heap_cell HF.out (j := 0) rfl
      have hidx := qIdx1 wr
      go_upto_region 4 with fail
      try rw [hU]
      clear hU
      go_wp2_with fail
      refine (d2_any a n c b m d F G hn hm _ (HP.out.below HBU.out) (HG.out.below HBU.out)).mono ?_
      rintro e u ⟨rfl, hb⟩
      rw [HR.out]
      have HB9 := Lib.hid (below_thn HBU0.out hb)
      clear hb kf k0 k1
      cases r
      · go_wp2_with fail
        go_ret
        exact ⟨ret_int (by simp [Pure.err, Pure.press, HR.out]), HBL.out _ HB9.out⟩
      · go_wp2_with fail
        go_roundw
        case rel => exact ⟨2, by omega, rfl, fun _ => HQ.out.1 (by omega), fun _ => HR.out, fun g => absurd g (by omega), fun g => absurd g (by omega), fun g => absurd g (by omega), fun g => absurd g (by omega), HB9.out⟩
        case measure => simp [intOf]
    · obtain ⟨r, hr⟩ : ∃ r, Pure.ordP n F = r := ⟨_, rfl⟩
      have HR := Lib.hid hr
      clear hr
      obtain ⟨U, hU⟩ : ∃ U, wr.alloc (.cells #[.func (.func 69) #[] #[]] 104) = U := ⟨_, rfl⟩
      have HBU0 : Hid (Below W.heap.size W U) := Lib.hid (by rw [← hU]; exact below_thn HBk.out (below_new _ _))
      have HXU : Hid (U.heap[w.heap.size]? = some (pressB a n c b m d)) := Lib.hid (by rw [← hU]; exact heap_up HX2.out _)
      have HF : Hid (U.heap[wr.heap.size]? = some (.cells #[.func (.func 69) #[] #[]] 104)) := Lib.hid (by rw [← hU]; exact heap_top _ _ rfl)
      have HBU := Lib.hid (HBL.out _ HBU0.out)
      have k0 := heap_cell HXU.out (j := 0) rfl
      have k1 := heap_cell HXU.out (j := 1) rfl
      have kf := heap_cell HF.out (j := 0) rfl
      have hidx := qIdx2 wr
      go_upto_region 4 with fail
      try rw [hU]
      clear hU
      go_wp2_with fail
      refine (d3_any a n c b m d F G hn hm _ (HP.out.below HBU.out) (HG.out.below HBU.out)).mono ?_
      rintro e u ⟨rfl, hb⟩
      rw [HR.out]
      have HB9 := Lib.hid (below_thn HBU0.out hb)
      clear hb kf k0 k1
      cases r
      · go_wp2_with fail
        go_ret
        exact ⟨ret_int (by simp [Pure.err, Pure.press, HR.out]), HBL.out _ HB9.out⟩
      · go_wp2_with fail
        go_roundw
        case rel => exact ⟨3, by omega, rfl, fun _ => HQ.out.1 (by omega), fun _ => HQ.out.2.1 (by omega), fun _ => HR.out, fun g => absurd g (by omega), fun g => absurd g (by omega), fun g => absurd g (by omega), HB9.out⟩
        case measure => simp [intOf]
    · obtain ⟨r, hr⟩ : ∃ r, Pure.leadP n F = r := ⟨_, rfl⟩
      have HR := Lib.hid hr
      clear hr
      obtain ⟨U, hU⟩ : ∃ U, wr.alloc (.cells #[.func (.func 72) #[] #[]] 104) = U := ⟨_, rfl⟩
      have HBU0 : Hid (Below W.heap.size W U) := Lib.hid (by rw [← hU]; exact below_thn HBk.out (below_new _ _))
      have HXU : Hid (U.heap[w.heap.size]? = some (pressB a n c b m d)) := Lib.hid (by rw [← hU]; exact heap_up HX2.out _)
      have HF : Hid (U.heap[wr.heap.size]? = some (.cells #[.func (.func 72) #[] #[]] 104)) := Lib.hid (by rw [← hU]; exact heap_top _ _ rfl)
      have HBU := Lib.hid (HBL.out _ HBU0.out)
      have k0 := heap_cell HXU.out (j := 0) rfl
      have k1 := heap_cell HXU.out (j := 1) rfl
      have kf := heap_cell HF.out (j := 0) rfl
      have hidx := qIdx3 wr
      go_upto_region 4 with fail
      try rw [hU]
      clear hU
      go_wp2_with fail
      refine (leadOn_any a n c b m d F hn _ (HP.out.below HBU.out)).mono ?_
      rintro e u ⟨rfl, hb⟩
      rw [HR.out]
      have HB9 := Lib.hid (below_thn HBU0.out hb)
      clear hb kf k0 k1
      cases r
      · go_wp2_with fail
        go_ret
        exact ⟨ret_int (by simp [Pure.err, Pure.press, HR.out]), HBL.out _ HB9.out⟩
      · go_wp2_with fail
        go_roundw
        case rel => exact ⟨4, by omega, rfl, fun _ => HQ.out.1 (by omega), fun _ => HQ.out.2.1 (by omega), fun _ => HQ.out.2.2.1 (by omega), fun _ => HR.out, fun g => absurd g (by omega), fun g => absurd g (by omega), HB9.out⟩
        case measure => simp [intOf]
    · obtain ⟨r, hr⟩ : ∃ r, Pure.fitW n F m G = r := ⟨_, rfl⟩
      have HR := Lib.hid hr
      clear hr
      obtain ⟨U, hU⟩ : ∃ U, wr.alloc (.cells #[.func (.func 73) #[] #[]] 104) = U := ⟨_, rfl⟩
      have HBU0 : Hid (Below W.heap.size W U) := Lib.hid (by rw [← hU]; exact below_thn HBk.out (below_new _ _))
      have HXU : Hid (U.heap[w.heap.size]? = some (pressB a n c b m d)) := Lib.hid (by rw [← hU]; exact heap_up HX2.out _)
      have HF : Hid (U.heap[wr.heap.size]? = some (.cells #[.func (.func 73) #[] #[]] 104)) := Lib.hid (by rw [← hU]; exact heap_top _ _ rfl)
      have HBU := Lib.hid (HBL.out _ HBU0.out)
      have k0 := heap_cell HXU.out (j := 0) rfl
      have k1 := heap_cell HXU.out (j := 1) rfl
      have kf := heap_cell HF.out (j := 0) rfl
      have hidx := qIdx4 wr
      go_upto_region 4 with fail
      try rw [hU]
      clear hU
      go_wp2_with fail
      refine (d4_any a n c b m d F G hn hm _ (HP.out.below HBU.out) (HG.out.below HBU.out)).mono ?_
      rintro e u ⟨rfl, hb⟩
      rw [HR.out]
      have HB9 := Lib.hid (below_thn HBU0.out hb)
      clear hb kf k0 k1
      cases r
      · go_wp2_with fail
        go_ret
        exact ⟨ret_int (by simp [Pure.err, Pure.press, HR.out]), HBL.out _ HB9.out⟩
      · go_wp2_with fail
        go_roundw
        case rel => exact ⟨5, by omega, rfl, fun _ => HQ.out.1 (by omega), fun _ => HQ.out.2.1 (by omega), fun _ => HQ.out.2.2.1 (by omega), fun _ => HQ.out.2.2.2.1 (by omega), fun _ => HR.out, fun g => absurd g (by omega), HB9.out⟩
        case measure => simp [intOf]
    · obtain ⟨r, hr⟩ : ∃ r, Pure.ordW m G = r := ⟨_, rfl⟩
      have HR := Lib.hid hr
      clear hr
      obtain ⟨U, hU⟩ : ∃ U, wr.alloc (.cells #[.func (.func 77) #[] #[]] 104) = U := ⟨_, rfl⟩
      have HBU0 : Hid (Below W.heap.size W U) := Lib.hid (by rw [← hU]; exact below_thn HBk.out (below_new _ _))
      have HXU : Hid (U.heap[w.heap.size]? = some (pressB a n c b m d)) := Lib.hid (by rw [← hU]; exact heap_up HX2.out _)
      have HF : Hid (U.heap[wr.heap.size]? = some (.cells #[.func (.func 77) #[] #[]] 104)) := Lib.hid (by rw [← hU]; exact heap_top _ _ rfl)
      have HBU := Lib.hid (HBL.out _ HBU0.out)
      have k0 := heap_cell HXU.out (j := 0) rfl
      have k1 := heap_cell HXU.out (j := 1) rfl
      have kf := heap_cell HF.out (j := 0) rfl
      have hidx := qIdx5 wr
      go_upto_region 4 with fail
      try rw [hU]
      clear hU
      go_wp2_with fail
      refine (d5_any a n c b m d F G hn hm _ (HP.out.below HBU.out) (HG.out.below HBU.out)).mono ?_
      rintro e u ⟨rfl, hb⟩
      rw [HR.out]
      have HB9 := Lib.hid (below_thn HBU0.out hb)
      clear hb kf k0 k1
      cases r
      · go_wp2_with fail
        go_ret
        exact ⟨ret_int (by simp [Pure.err, Pure.press, HR.out]), HBL.out _ HB9.out⟩
      · go_wp2_with fail
        go_roundw
        case rel => exact ⟨6, by omega, rfl, fun _ => HQ.out.1 (by omega), fun _ => HQ.out.2.1 (by omega), fun _ => HQ.out.2.2.1 (by omega), fun _ => HQ.out.2.2.2.1 (by omega), fun _ => HQ.out.2.2.2.2.1 (by omega), fun _ => HR.out, HB9.out⟩
        case measure => simp [intOf]
    · go_wp2_with fail
      go_ret
      exact ⟨ret_int (by simp [Pure.err, Pure.press, HQ.out.1 (by omega), HQ.out.2.1 (by omega), HQ.out.2.2.1 (by omega), HQ.out.2.2.2.1 (by omega), HQ.out.2.2.2.2.1 (by omega), HQ.out.2.2.2.2.2 (by omega)]), HBL.out _ HBk.out⟩

end Go.Proofs.YtijfdfplebbaaaaGreat
