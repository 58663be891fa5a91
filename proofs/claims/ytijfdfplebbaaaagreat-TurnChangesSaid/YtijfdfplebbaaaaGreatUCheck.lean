/-
  The contracts of notesFit, of the questions, and of Check.
-/
import Derived.Test.YtijfdfplebbaaaaGreatUNote
import Derived.Test.YtijfdfplebbaaaaGreatQCheck
namespace Go.Proofs.YtijfdfplebbaaaaGreat
open Go.RowKit

set_option maxHeartbeats 2000000 in
set_option maxRecDepth 100000 in
theorem notesFit_any (r : RollX) (d : RollD) (hN : RollN r) (w : World) (hR : RollAt w r d) :
    Calls Tryz.prog 57 #[rollV r] w fun e w' => e = .returned (.bool (Pure.notesOk r d)) ∧ Below w.heap.size w w' := by
  obtain ⟨W, hW⟩ : ∃ W, w.alloc (rollB r) = W := ⟨_, rfl⟩
  have HB : Hid (Below w.heap.size w W) := Lib.hid (by rw [← hW]; exact below_new _ _)
  have HX : Hid (W.heap[w.heap.size]? = some (rollB r)) := Lib.hid (by rw [← hW]; exact heap_top _ _ rfl)
  have HR := Lib.hid (hR.below HB.out)
  clear hR
  unfold Pure.notesOk
  obtain ⟨r2, hr2⟩ : ∃ q, (List.range r.nn).any (fun j => Pure.noteBad r d (d.N j)) = q := ⟨_, rfl⟩
  obtain ⟨r3, hr3⟩ : ∃ q, Pure.inOrder (fun j => decide ((d.N j).n < (d.N (j + 1)).n)) r.nn = q := ⟨_, rfl⟩
  rw [hr2, hr3]
  have HR2 := Lib.hid hr2
  have HR3 := Lib.hid hr3
  clear hr2 hr3
  have x4 := heap_cell HX.out (j := 4) rfl
  go_enter Tryz.func57, Tryz.ntmps57
  go_upto_region 1 with fail
  try rw [hW]
  clear hW
  by_cases hm : (r.nn : Int) ≤ 24
  · go_wp2_with fail
    refine (containsNoteBad_any w.heap.size r.na r.nn r.nc d.N (fun j => Pure.noteBad r d (d.N j)) hN.n _ HR.out.n (fun u j hj hb => noteBad_any w.heap.size r d _ hN u (heap_lft HX.out hb) (HR.out.below hb))).mono ?_
    rintro e w2 ⟨rfl, hb⟩
    rw [HR2.out]
    have HB2 := Lib.hid (below_thn HB.out hb)
    have HRR := Lib.hid (HR.out.below hb)
    have HX2 := Lib.hid (heap_lft HX.out hb)
    clear x4 hb
    have x4 := heap_cell HX2.out (j := 4) rfl
    cases r2
    · go_wp2_with fail
      refine (inOrderTNote_any r.na r.nn r.nc d.N (fun j => decide ((d.N j).n < (d.N (j + 1)).n)) hN.n _ HRR.out.n (fun u j hj hb => NoteLess_any _ _ u)).mono ?_
      rintro e w3 ⟨rfl, hb⟩
      rw [HR3.out]
      have HB3 := Lib.hid (below_thn HB2.out hb)
      clear hb x4
      go_wp2_with fail
      go_ret
      exact ⟨ret_bool (by rw [decide_eq_true hm]; rfl), HB3.out⟩
    · go_wp2_with fail
      go_ret
      exact ⟨ret_bool (by simp), HB2.out⟩
  · go_wp2_with fail
    go_ret
    exact ⟨ret_bool (by rw [decide_eq_false (show ¬ (r.nn : Int) ≤ 24 by omega)]; rfl), HB.out⟩

abbrev questionsV : Value := .agg #[.func (.func 55) #[] #[], .func (.func 56) #[] #[], .func (.func 57) #[] #[]]
theorem tIdx0 (w : World) : (Instr.index 81 questionsV (.int .i64 0)).run Tryz.prog w = .ok (.agg #[.func (.func 55) #[] #[]]) w := by kernel_rfl
theorem tIdx1 (w : World) : (Instr.index 81 questionsV (.int .i64 1)).run Tryz.prog w = .ok (.agg #[.func (.func 56) #[] #[]]) w := by kernel_rfl
theorem tIdx2 (w : World) : (Instr.index 81 questionsV (.int .i64 2)).run Tryz.prog w = .ok (.agg #[.func (.func 57) #[] #[]]) w := by kernel_rfl
theorem questions_any (w : World) : Calls Tryz.prog 31 #[] w fun e w' => e = .returned questionsV ∧ Below w.heap.size w w' := by
  go_enter Tryz.func31, Tryz.ntmps31
  go_wp2_with fail
  refine bodyPost_ret (v := questionsV) (by simp [results, Tryz.results31, go_sem]) rfl ⟨rfl, ?_⟩
  repeat (first | exact Below.refl _ _ | refine Below.setCell ?_ (by simp) _ | refine Below.alloc ?_ (by simp; try omega) _)

/-- What Check answers. -/
def Pure.checkE (r : RollX) (d : RollD) : Int := if Pure.press r.pn d.P r.wn d.W then Pure.err (Pure.roll r d) 90 else 20
set_option maxHeartbeats 8000000 in
set_option maxRecDepth 100000 in
/-- **Check**. -/
theorem tCheck_any (r : RollX) (d : RollD) (hN : RollN r) (w : World) (hR : RollAt w r d) :
    Calls Tryz.prog 15 #[rollV r] w fun e w' => e = .returned (.int .i64 (Pure.checkE r d)) ∧ Below w.heap.size w w' := by
  unfold Pure.checkE
  obtain ⟨W, hW⟩ : ∃ W, w.alloc (rollB r) = W := ⟨_, rfl⟩
  have HB : Hid (Below w.heap.size w W) := Lib.hid (by rw [← hW]; exact below_new _ _)
  have HX : Hid (W.heap[w.heap.size]? = some (rollB r)) := Lib.hid (by rw [← hW]; exact heap_top _ _ rfl)
  have HR := Lib.hid (hR.below HB.out)
  clear hR
  obtain ⟨g, hg⟩ : ∃ q, Pure.press r.pn d.P r.wn d.W = q := ⟨_, rfl⟩
  rw [hg]
  have HG := Lib.hid hg
  clear hg
  have x0 := heap_cell HX.out (j := 0) rfl
  have x1 := heap_cell HX.out (j := 1) rfl
  go_enter Tryz.func15, Tryz.ntmps15
  go_upto_region 1 with fail
  try rw [hW]
  clear hW
  go_wp2_with fail
  refine (check_any r.pa r.pn r.pc r.wa r.wn r.wc d.P d.W hN.p hN.w _ HR.out.p HR.out.g).mono ?_
  rintro e u ⟨rfl, hb⟩
  rw [HG.out]
  have HB2 := Lib.hid (below_thn HB.out hb)
  have HX2 := Lib.hid (heap_lft HX.out hb)
  have HR2 := Lib.hid (HR.out.below hb)
  clear hb x0 x1
  cases g
  · go_wp2_with fail
    go_ret
    exact ⟨rfl, HB2.out⟩
  · go_wp2_with fail
    refine (questions_any _).mono ?_
    rintro e V ⟨rfl, hb⟩
    have HB3 := Lib.hid (below_thn HB2.out hb)
    have HX3 := Lib.hid (heap_lft HX2.out hb)
    have HR3 := Lib.hid (HR2.out.below hb)
    clear hb
    go_wp2_with fail
    go_loopw [5, 13] (fun _ i wr => ∃ k : Nat, k ≤ 3 ∧ i = .int .i64 k ∧ (1 ≤ k → Pure.menOk r d = true) ∧ (2 ≤ k → Pure.shiftsOk r d = true) ∧ (3 ≤ k → Pure.notesOk r d = true) ∧ Below V.heap.size V wr) (fun _ i _ => 3 - (intOf i).toNat)
    case atStart => exact ⟨0, by omega, rfl, by omega, by omega, by omega, Below.refl _ _⟩
    case round =>
      obtain ⟨k, hk, rfl, q0, q1, q2, hb⟩ := hrel
      have HQ := Lib.hid (And.intro q0 (And.intro q1 (q2)))
      have HX4 := Lib.hid (heap_lft HX3.out hb)
      have HR4 := Lib.hid (HR3.out.below hb)
      have HBk := Lib.hid hb
      have hbl : ∀ W', Below V.heap.size V W' → Below w.heap.size w W' := fun W' g => below_thn HB3.out g
      have HBL := Lib.hid hbl
      clear q0 q1 q2 hb hbl
      have hs1 : w.heap.size < wr.heap.size := (Array.getElem?_eq_some_iff.1 HX4.out).1
      have hk5 : k = 0 ∨ k = 1 ∨ k = 2 ∨ k = 3 := by omega
      rcases hk5 with rfl | rfl | rfl | rfl
      · obtain ⟨q, hq⟩ : ∃ q, Pure.menOk r d = q := ⟨_, rfl⟩
        have HRq := Lib.hid hq
        clear hq
        obtain ⟨U, hU⟩ : ∃ U, wr.alloc (.cells #[.func (.func 55) #[] #[]] 80) = U := ⟨_, rfl⟩
        have HBU0 : Hid (Below V.heap.size V U) := Lib.hid (by rw [← hU]; exact below_thn HBk.out (below_new _ _))
        have HXU : Hid (U.heap[w.heap.size]? = some (rollB r)) := Lib.hid (by rw [← hU]; exact heap_up HX4.out _)
        have HRU : Hid (RollAt U r d) := Lib.hid (by rw [← hU]; exact HR4.out.below (below_new _ _))
        have HF : Hid (U.heap[wr.heap.size]? = some (.cells #[.func (.func 55) #[] #[]] 80)) := Lib.hid (by rw [← hU]; exact heap_top _ _ rfl)
        have k0 := heap_cell HXU.out (j := 0) rfl
        have k1 := heap_cell HXU.out (j := 1) rfl
        have k2 := heap_cell HXU.out (j := 2) rfl
        have k3 := heap_cell HXU.out (j := 3) rfl
        have k4 := heap_cell HXU.out (j := 4) rfl
        have kf := heap_cell HF.out (j := 0) rfl
        have hidx := tIdx0 wr
        go_upto_region 7 with fail
        try rw [hU]
        clear hU
        go_wp2_with fail
        refine (menFit_any r d hN _ HRU.out).mono ?_
        rintro e u ⟨rfl, hb⟩
        rw [HRq.out]
        have HB9 := Lib.hid (below_thn HBU0.out hb)
        clear hb kf k0 k1 k2 k3 k4
        cases q
        · go_wp2_with fail
          go_ret
          exact ⟨ret_int (by simp [Pure.err, Pure.roll, HRq.out]), HBL.out _ HB9.out⟩
        · go_wp2_with fail
          go_roundw
          case rel => exact ⟨1, by omega, rfl, fun _ => HRq.out, fun g => absurd g (by omega), fun g => absurd g (by omega), HB9.out⟩
          case measure => simp [intOf]
      · obtain ⟨q, hq⟩ : ∃ q, Pure.shiftsOk r d = q := ⟨_, rfl⟩
        have HRq := Lib.hid hq
        clear hq
        obtain ⟨U, hU⟩ : ∃ U, wr.alloc (.cells #[.func (.func 56) #[] #[]] 80) = U := ⟨_, rfl⟩
        have HBU0 : Hid (Below V.heap.size V U) := Lib.hid (by rw [← hU]; exact below_thn HBk.out (below_new _ _))
        have HXU : Hid (U.heap[w.heap.size]? = some (rollB r)) := Lib.hid (by rw [← hU]; exact heap_up HX4.out _)
        have HRU : Hid (RollAt U r d) := Lib.hid (by rw [← hU]; exact HR4.out.below (below_new _ _))
        have HF : Hid (U.heap[wr.heap.size]? = some (.cells #[.func (.func 56) #[] #[]] 80)) := Lib.hid (by rw [← hU]; exact heap_top _ _ rfl)
        have k0 := heap_cell HXU.out (j := 0) rfl
        have k1 := heap_cell HXU.out (j := 1) rfl
        have k2 := heap_cell HXU.out (j := 2) rfl
        have k3 := heap_cell HXU.out (j := 3) rfl
        have k4 := heap_cell HXU.out (j := 4) rfl
        have kf := heap_cell HF.out (j := 0) rfl
        have hidx := tIdx1 wr
        go_upto_region 7 with fail
        try rw [hU]
        clear hU
        go_wp2_with fail
        refine (shiftsFit_any r d hN _ HRU.out).mono ?_
        rintro e u ⟨rfl, hb⟩
        rw [HRq.out]
        have HB9 := Lib.hid (below_thn HBU0.out hb)
        clear hb kf k0 k1 k2 k3 k4
        cases q
        · go_wp2_with fail
          go_ret
          exact ⟨ret_int (by simp [Pure.err, Pure.roll, HRq.out]), HBL.out _ HB9.out⟩
        · go_wp2_with fail
          go_roundw
          case rel => exact ⟨2, by omega, rfl, fun _ => HQ.out.1 (by omega), fun _ => HRq.out, fun g => absurd g (by omega), HB9.out⟩
          case measure => simp [intOf]
      · obtain ⟨q, hq⟩ : ∃ q, Pure.notesOk r d = q := ⟨_, rfl⟩
        have HRq := Lib.hid hq
        clear hq
        obtain ⟨U, hU⟩ : ∃ U, wr.alloc (.cells #[.func (.func 57) #[] #[]] 80) = U := ⟨_, rfl⟩
        have HBU0 : Hid (Below V.heap.size V U) := Lib.hid (by rw [← hU]; exact below_thn HBk.out (below_new _ _))
        have HXU : Hid (U.heap[w.heap.size]? = some (rollB r)) := Lib.hid (by rw [← hU]; exact heap_up HX4.out _)
        have HRU : Hid (RollAt U r d) := Lib.hid (by rw [← hU]; exact HR4.out.below (below_new _ _))
        have HF : Hid (U.heap[wr.heap.size]? = some (.cells #[.func (.func 57) #[] #[]] 80)) := Lib.hid (by rw [← hU]; exact heap_top _ _ rfl)
        have k0 := heap_cell HXU.out (j := 0) rfl
        have k1 := heap_cell HXU.out (j := 1) rfl
        have k2 := heap_cell HXU.out (j := 2) rfl
        have k3 := heap_cell HXU.out (j := 3) rfl
        have k4 := heap_cell HXU.out (j := 4) rfl
        have kf := heap_cell HF.out (j := 0) rfl
        have hidx := tIdx2 wr
        go_upto_region 7 with fail
        try rw [hU]
        clear hU
        go_wp2_with fail
        refine (notesFit_any r d hN _ HRU.out).mono ?_
        rintro e u ⟨rfl, hb⟩
        rw [HRq.out]
        have HB9 := Lib.hid (below_thn HBU0.out hb)
        clear hb kf k0 k1 k2 k3 k4
        cases q
        · go_wp2_with fail
          go_ret
          exact ⟨ret_int (by simp [Pure.err, Pure.roll, HRq.out]), HBL.out _ HB9.out⟩
        · go_wp2_with fail
          go_roundw
          case rel => exact ⟨3, by omega, rfl, fun _ => HQ.out.1 (by omega), fun _ => HQ.out.2.1 (by omega), fun _ => HRq.out, HB9.out⟩
          case measure => simp [intOf]
      · go_wp2_with fail
        go_ret
        exact ⟨ret_int (by simp [Pure.err, Pure.roll, HQ.out.1 (by omega), HQ.out.2.1 (by omega), HQ.out.2.2 (by omega)]), HBL.out _ HBk.out⟩

end Go.Proofs.YtijfdfplebbaaaaGreat
