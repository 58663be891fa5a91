/-
  The contract of the specification's Twin.
-/
import Derived.Test.YtacdbjandcdejaaPValid
import Derived.ArgAppend
namespace Go.Proofs.Ytacdbjandcdejaa
open Go.RowKit

set_option maxHeartbeats 8000000 in
set_option maxRecDepth 100000 in
theorem twin_any (p : PlanX) (T A S : Nat → Int) (hn : p.tn ≤ 40) (ha : p.an ≤ 40) (hs : p.sn ≤ 40) (w : World) (h : PlanAt w p T A S) :
    Calls Try.prog 6 #[planV p] w (CopiedOut p T A S w) := by
  obtain ⟨fr, ta, tn, tc, sd, ck, aa, an, ac, sa, sn, sc, bu⟩ := p
  simp only at hn ha hs
  obtain ⟨W, hW⟩ : ∃ W, (w.alloc (planB ⟨fr, ta, tn, tc, sd, ck, aa, an, ac, sa, sn, sc, bu⟩)).alloc (planB noPlan) = W := ⟨_, rfl⟩
  have HB0 : Hid (Below w.heap.size w W) := Lib.hid (by rw [← hW]; exact (below_new _ _).alloc (by simp) _)
  have HX0 : Hid (W.heap[w.heap.size]? = some (planB ⟨fr, ta, tn, tc, sd, ck, aa, an, ac, sa, sn, sc, bu⟩)) := Lib.hid (by rw [← hW]; exact heap_up (heap_top _ _ rfl) _)
  have HY0 : Hid (W.heap[w.heap.size + 1]? = some (planB noPlan)) := Lib.hid (by rw [← hW]; exact heap_top _ _ (by simp))
  have HP : Hid (PlanAt w ⟨fr, ta, tn, tc, sd, ck, aa, an, ac, sa, sn, sc, bu⟩ T A S) := Lib.hid h
  have HSZ : Hid (W.heap.size = w.heap.size + 2) := Lib.hid (by rw [← hW]; simp)
  clear h
  go_enter Try.func6, Try.ntmps6
  go_upto_region 1 with fail
  try rw [hW]
  clear hW
  obtain ⟨W0, rfl⟩ : ∃ x, x = W := ⟨_, rfl⟩
  have HF0 : Hid (W0.heap.size ≤ W0.heap.size) := Lib.hid (Nat.le_refl _)
  go_cut [] from 3 to 7 (fun wx => ∃ a1 c1, wx.heap[w.heap.size]? = some (planB ⟨fr, a1, tn, c1, sd, ck, aa, an, ac, sa, sn, sc, bu⟩) ∧ wx.heap[w.heap.size + 1]? = some (planB noPlan) ∧ OwnNums wx W0.heap.size 3 1 a1 tn c1 T ∧ Below w.heap.size w wx)
  case first =>
    by_cases h0 : tn = 0
    · subst h0
      clear HP
      obtain ⟨V, hV⟩ : ∃ V, (W0.alloc (.cells #[] 3)) = V := ⟨_, rfl⟩
      have hbV : Below W0.heap.size W0 V := by rw [← hV]; exact below_new _ _
      have HXX := Lib.hid (heap_lft HX0.out hbV)
      have HYY := Lib.hid (heap_lft HY0.out hbV)
      have HBB := Lib.hid (below_thn HB0.out hbV)
      have HO1V : Hid (OwnNums V W0.heap.size 3 1 (some ⟨W0.heap.size, 0, none⟩) 0 0 T) := Lib.hid (by rw [← hV]; exact own_empty _ _ _ rfl HF0.out _)
      clear hbV
      have k1 := heap_cell HXX.out (j := 1) rfl
      have f1 := heap_frozen HXX.out 1
      cases ta
      all_goals
        go_wp2_with fail
        go_meet
        refine ⟨some ⟨W0.heap.size, 0, none⟩, 0, heap_set HXX.out 1 _, (Below.heap_setCell _ _ _ _ (by simp)).trans HYY.out, HO1V.out.set (by have := HSZ.out; simp; omega) _, HBB.out.setCell (Nat.le_refl _) _⟩
    · obtain ⟨b, off, hta, _⟩ := HP.out.t 0 (by simpa using Nat.pos_of_ne_zero h0)
      simp only at hta
      subst hta
      obtain ⟨V, hV⟩ : ∃ V, (W0.alloc (.cells #[] 3)) = V := ⟨_, rfl⟩
      have hbV : Below W0.heap.size W0 V := by rw [← hV]; exact below_new _ _
      have HXZ := Lib.hid (heap_lft HX0.out hbV)
      have HYZ := Lib.hid (heap_lft HY0.out hbV)
      have HBZ := Lib.hid (below_thn HB0.out hbV)
      have HN : Hid (NumsAt V (some ⟨b, off, none⟩) (tn * 1) T) := Lib.hid (by simpa using HP.out.t.below HBZ.out)
      have hrowE : V.heap.size = W0.heap.size + 1 := by rw [← hV]; simp
      have HVE := Lib.hid hrowE
      have HV := Lib.hid hV
      clear hbV hrowE
      have k1 := heap_cell HXZ.out (j := 1) rfl
      obtain ⟨i0, hi, hz0, hz1, hz2⟩ := infoInt
      go_wp2_with (at_builtin; refine wpList_append_grows _ rfl (.tmp 3) (.tmp 5) 22 rfl 3 i0 (.int .i64 0) 1 8 Try.underlying22 hi hz0 hz1 hz2 rfl (by decide) (some ⟨W0.heap.size, 0, none⟩) 0 0 [] rfl (by simp) rfl (by intro _ _ _ _ h; simp at h) ⟨b, off, none⟩ tn tc (numsCells (tn * 1) T) rfl (numsCells_length _ _) (fun j v h => numsCells_hold HN.out h) ?c2 (by omega) (by unfold maxLen; omega) (by omega) ?grow)
      case c2 =>
        intro v hv
        obtain ⟨j, hj⟩ := List.getElem?_of_mem hv
        obtain ⟨_, rfl⟩ := numsCells_at hj
        rfl
      case grow =>
        intro v' w' hown hgrow
        have hown : w'.ownsRow V.heap.size 3 1 v' tn (numsCells (tn * 1) T) := by simpa using hown
        obtain ⟨a1, c1, rfl⟩ : ∃ a' cap', v' = .slice a' tn cap' := by
          obtain ⟨_, ⟨rfl, h⟩ | ⟨g, c, cur, rfl, _⟩⟩ := hown
          · exact absurd h h0
          · exact ⟨_, _, rfl⟩
        have hbw : Below V.heap.size V w' := (Below.refl _ _).grown hgrow (Nat.le_refl _) (fun k h => by cases h)
        have HO1V : Hid (OwnNums w' W0.heap.size 3 1 a1 tn c1 T) := Lib.hid (OwnNums.base hown (by have := HF0.out; have := HVE.out; omega))
        have HXX := Lib.hid (heap_lft HXZ.out hbw)
        have HYY := Lib.hid (heap_lft HYZ.out hbw)
        have HBB := Lib.hid (below_thn HBZ.out hbw)
        clear hown hgrow hbw k1
        have k1 := heap_cell HXX.out (j := 1) rfl
        have f1 := heap_frozen HXX.out 1
        go_wp2_with fail
        go_meet
        refine ⟨a1, c1, heap_set HXX.out 1 _, (Below.heap_setCell _ _ _ _ (by simp)).trans HYY.out, HO1V.out.set (by have := HSZ.out; simp; omega) _, HBB.out.setCell (Nat.le_refl _) _⟩
  case rest =>
    obtain ⟨W1, rfl⟩ : ∃ x, x = wc := ⟨_, rfl⟩
    obtain ⟨a1, c1, hx, hy, ho1, hb⟩ := hcut
    have HX1 := Lib.hid hx
    have HY1 := Lib.hid hy
    have HB1 := Lib.hid hb
    have HO1 := Lib.hid ho1
    have HF1 : Hid (W0.heap.size ≤ W1.heap.size) := Lib.hid (by have h1 := (Array.getElem?_eq_some_iff.1 hy).1; have := HSZ.out; omega)
    clear hx hy hb ho1
    go_upto_region 2 with fail
    go_cut [] from 8 to 12 (fun wx => ∃ a2 c2, wx.heap[w.heap.size]? = some (planB ⟨fr, a1, tn, c1, sd, ck, a2, an, c2, sa, sn, sc, bu⟩) ∧ wx.heap[w.heap.size + 1]? = some (planB noPlan) ∧ OwnNums wx W0.heap.size 3 1 a1 tn c1 T ∧ OwnNums wx W0.heap.size 43 2 a2 an c2 A ∧ Below w.heap.size w wx)
    case first =>
      by_cases h0 : an = 0
      · subst h0
        clear HP
        obtain ⟨V, hV⟩ : ∃ V, (W1.alloc (.cells #[] 43)) = V := ⟨_, rfl⟩
        have hbV : Below W1.heap.size W1 V := by rw [← hV]; exact below_new _ _
        have HXX := Lib.hid (heap_lft HX1.out hbV)
        have HYY := Lib.hid (heap_lft HY1.out hbV)
        have HBB := Lib.hid (below_thn HB1.out hbV)
        have HO1V := Lib.hid (HO1.out.below hbV)
        have HO2V : Hid (OwnNums V W0.heap.size 43 2 (some ⟨W1.heap.size, 0, none⟩) 0 0 A) := Lib.hid (by rw [← hV]; exact own_empty _ _ _ rfl HF1.out _)
        clear hbV
        have k4 := heap_cell HXX.out (j := 4) rfl
        have f4 := heap_frozen HXX.out 4
        cases aa
        all_goals
          go_wp2_with fail
          go_meet
          refine ⟨some ⟨W1.heap.size, 0, none⟩, 0, heap_set HXX.out 4 _, (Below.heap_setCell _ _ _ _ (by simp)).trans HYY.out, HO1V.out.set (by have := HSZ.out; simp; omega) _, HO2V.out.set (by have := HSZ.out; simp; omega) _, HBB.out.setCell (Nat.le_refl _) _⟩
      · obtain ⟨b, off, hta, _⟩ := HP.out.a 0 (by simp only; omega)
        simp only at hta
        subst hta
        obtain ⟨V, hV⟩ : ∃ V, (W1.alloc (.cells #[] 43)) = V := ⟨_, rfl⟩
        have hbV : Below W1.heap.size W1 V := by rw [← hV]; exact below_new _ _
        have HXZ := Lib.hid (heap_lft HX1.out hbV)
        have HYZ := Lib.hid (heap_lft HY1.out hbV)
        have HBZ := Lib.hid (below_thn HB1.out hbV)
        have HO1Z := Lib.hid (HO1.out.below hbV)
        have HN : Hid (NumsAt V (some ⟨b, off, none⟩) (an * 2) A) := Lib.hid (HP.out.a.below HBZ.out)
        have hrowE : V.heap.size = W1.heap.size + 1 := by rw [← hV]; simp
        have HVE := Lib.hid hrowE
        have HV := Lib.hid hV
        clear hbV hrowE
        have k4 := heap_cell HXZ.out (j := 4) rfl
        obtain ⟨i0, hi, hz0, hz1, hz2⟩ := infoArr
        go_wp2_with (at_builtin; refine wpList_append_grows _ rfl (.tmp 8) (.tmp 10) 23 rfl 43 i0 (.agg #[.int .i64 0, .int .i64 0]) 2 16 Try.underlying23 hi hz0 hz1 hz2 rfl (by decide) (some ⟨W1.heap.size, 0, none⟩) 0 0 [] rfl (by simp) rfl (by intro _ _ _ _ h; simp at h) ⟨b, off, none⟩ an ac (numsCells (an * 2) A) rfl (numsCells_length _ _) (fun j v h => numsCells_hold HN.out h) ?c2 (by omega) (by unfold maxLen; omega) (by omega) ?grow)
        case c2 =>
          intro v hv
          obtain ⟨j, hj⟩ := List.getElem?_of_mem hv
          obtain ⟨_, rfl⟩ := numsCells_at hj
          rfl
        case grow =>
          intro v' w' hown hgrow
          have hown : w'.ownsRow V.heap.size 43 2 v' an (numsCells (an * 2) A) := by simpa using hown
          obtain ⟨a2, c2, rfl⟩ : ∃ a' cap', v' = .slice a' an cap' := by
            obtain ⟨_, ⟨rfl, h⟩ | ⟨g, c, cur, rfl, _⟩⟩ := hown
            · exact absurd h h0
            · exact ⟨_, _, rfl⟩
          have hbw : Below V.heap.size V w' := (Below.refl _ _).grown hgrow (Nat.le_refl _) (fun k h => by cases h)
          have HO2V : Hid (OwnNums w' W0.heap.size 43 2 a2 an c2 A) := Lib.hid (OwnNums.base hown (by have := HF1.out; have := HVE.out; omega))
          have HXX := Lib.hid (heap_lft HXZ.out hbw)
          have HYY := Lib.hid (heap_lft HYZ.out hbw)
          have HBB := Lib.hid (below_thn HBZ.out hbw)
          have HO1V := Lib.hid (HO1Z.out.below hbw)
          clear hown hgrow hbw k4
          have k4 := heap_cell HXX.out (j := 4) rfl
          have f4 := heap_frozen HXX.out 4
          go_wp2_with fail
          go_meet
          refine ⟨a2, c2, heap_set HXX.out 4 _, (Below.heap_setCell _ _ _ _ (by simp)).trans HYY.out, HO1V.out.set (by have := HSZ.out; simp; omega) _, HO2V.out.set (by have := HSZ.out; simp; omega) _, HBB.out.setCell (Nat.le_refl _) _⟩
    case rest =>
      obtain ⟨W2, rfl⟩ : ∃ x, x = wc := ⟨_, rfl⟩
      obtain ⟨a2, c2, hx, hy, ho1, ho2, hb⟩ := hcut
      have HX2 := Lib.hid hx
      have HY2 := Lib.hid hy
      have HB2 := Lib.hid hb
      replace HO1 := Lib.hid ho1
      have HO2 := Lib.hid ho2
      have HF2 : Hid (W0.heap.size ≤ W2.heap.size) := Lib.hid (by have h1 := (Array.getElem?_eq_some_iff.1 hy).1; have := HSZ.out; omega)
      clear hx hy hb ho1 ho2
      go_upto_region 3 with fail
      go_cut [] from 13 to 17 (fun wx => ∃ a3 c3, wx.heap[w.heap.size]? = some (planB ⟨fr, a1, tn, c1, sd, ck, a2, an, c2, a3, sn, c3, bu⟩) ∧ wx.heap[w.heap.size + 1]? = some (planB noPlan) ∧ OwnNums wx W0.heap.size 3 1 a1 tn c1 T ∧ OwnNums wx W0.heap.size 43 2 a2 an c2 A ∧ OwnNums wx W0.heap.size 41 4 a3 sn c3 S ∧ Below w.heap.size w wx)
      case first =>
        by_cases h0 : sn = 0
        · subst h0
          clear HP
          obtain ⟨V, hV⟩ : ∃ V, (W2.alloc (.cells #[] 41)) = V := ⟨_, rfl⟩
          have hbV : Below W2.heap.size W2 V := by rw [← hV]; exact below_new _ _
          have HXX := Lib.hid (heap_lft HX2.out hbV)
          have HYY := Lib.hid (heap_lft HY2.out hbV)
          have HBB := Lib.hid (below_thn HB2.out hbV)
          have HO1V := Lib.hid (HO1.out.below hbV)
          have HO2V := Lib.hid (HO2.out.below hbV)
          have HO3V : Hid (OwnNums V W0.heap.size 41 4 (some ⟨W2.heap.size, 0, none⟩) 0 0 S) := Lib.hid (by rw [← hV]; exact own_empty _ _ _ rfl HF2.out _)
          clear hbV
          have k5 := heap_cell HXX.out (j := 5) rfl
          have f5 := heap_frozen HXX.out 5
          cases sa
          all_goals
            go_wp2_with fail
            go_meet
            refine ⟨some ⟨W2.heap.size, 0, none⟩, 0, heap_set HXX.out 5 _, (Below.heap_setCell _ _ _ _ (by simp)).trans HYY.out, HO1V.out.set (by have := HSZ.out; simp; omega) _, HO2V.out.set (by have := HSZ.out; simp; omega) _, HO3V.out.set (by have := HSZ.out; simp; omega) _, HBB.out.setCell (Nat.le_refl _) _⟩
        · obtain ⟨b, off, hta, _⟩ := HP.out.s 0 (by simp only; omega)
          simp only at hta
          subst hta
          obtain ⟨V, hV⟩ : ∃ V, (W2.alloc (.cells #[] 41)) = V := ⟨_, rfl⟩
          have hbV : Below W2.heap.size W2 V := by rw [← hV]; exact below_new _ _
          have HXZ := Lib.hid (heap_lft HX2.out hbV)
          have HYZ := Lib.hid (heap_lft HY2.out hbV)
          have HBZ := Lib.hid (below_thn HB2.out hbV)
          have HO1Z := Lib.hid (HO1.out.below hbV)
          have HO2Z := Lib.hid (HO2.out.below hbV)
          have HN : Hid (NumsAt V (some ⟨b, off, none⟩) (sn * 4) S) := Lib.hid (HP.out.s.below HBZ.out)
          have hrowE : V.heap.size = W2.heap.size + 1 := by rw [← hV]; simp
          have HVE := Lib.hid hrowE
          have HV := Lib.hid hV
          clear hbV hrowE
          have k5 := heap_cell HXZ.out (j := 5) rfl
          obtain ⟨i0, hi, hz0, hz1, hz2⟩ := infoSale
          go_wp2_with (at_builtin; refine wpList_append_grows _ rfl (.tmp 13) (.tmp 15) 24 rfl 41 i0 (.agg #[.int .i64 0, .int .i64 0, .int .i64 0, .int .i64 0]) 4 32 Try.underlying24 hi hz0 hz1 hz2 rfl (by decide) (some ⟨W2.heap.size, 0, none⟩) 0 0 [] rfl (by simp) rfl (by intro _ _ _ _ h; simp at h) ⟨b, off, none⟩ sn sc (numsCells (sn * 4) S) rfl (numsCells_length _ _) (fun j v h => numsCells_hold HN.out h) ?c2 (by omega) (by unfold maxLen; omega) (by omega) ?grow)
          case c2 =>
            intro v hv
            obtain ⟨j, hj⟩ := List.getElem?_of_mem hv
            obtain ⟨_, rfl⟩ := numsCells_at hj
            rfl
          case grow =>
            intro v' w' hown hgrow
            have hown : w'.ownsRow V.heap.size 41 4 v' sn (numsCells (sn * 4) S) := by simpa using hown
            obtain ⟨a3, c3, rfl⟩ : ∃ a' cap', v' = .slice a' sn cap' := by
              obtain ⟨_, ⟨rfl, h⟩ | ⟨g, c, cur, rfl, _⟩⟩ := hown
              · exact absurd h h0
              · exact ⟨_, _, rfl⟩
            have hbw : Below V.heap.size V w' := (Below.refl _ _).grown hgrow (Nat.le_refl _) (fun k h => by cases h)
            have HO3V : Hid (OwnNums w' W0.heap.size 41 4 a3 sn c3 S) := Lib.hid (OwnNums.base hown (by have := HF2.out; have := HVE.out; omega))
            have HXX := Lib.hid (heap_lft HXZ.out hbw)
            have HYY := Lib.hid (heap_lft HYZ.out hbw)
            have HBB := Lib.hid (below_thn HBZ.out hbw)
            have HO1V := Lib.hid (HO1Z.out.below hbw)
            have HO2V := Lib.hid (HO2Z.out.below hbw)
            clear hown hgrow hbw k5
            have k5 := heap_cell HXX.out (j := 5) rfl
            have f5 := heap_frozen HXX.out 5
            go_wp2_with fail
            go_meet
            refine ⟨a3, c3, heap_set HXX.out 5 _, (Below.heap_setCell _ _ _ _ (by simp)).trans HYY.out, HO1V.out.set (by have := HSZ.out; simp; omega) _, HO2V.out.set (by have := HSZ.out; simp; omega) _, HO3V.out.set (by have := HSZ.out; simp; omega) _, HBB.out.setCell (Nat.le_refl _) _⟩
      case rest =>
        obtain ⟨W3, rfl⟩ : ∃ x, x = wc := ⟨_, rfl⟩
        obtain ⟨a3, c3, hx, hy, ho1, ho2, ho3, hb⟩ := hcut
        have HX3 := Lib.hid hx
        have HY3 := Lib.hid hy
        have HB3 := Lib.hid hb
        replace HO1 := Lib.hid ho1
        replace HO2 := Lib.hid ho2
        have HO3 := Lib.hid ho3
        have HF3 : Hid (W0.heap.size ≤ W3.heap.size) := Lib.hid (by have h1 := (Array.getElem?_eq_some_iff.1 hy).1; have := HSZ.out; omega)
        clear hx hy hb ho1 ho2 ho3
        have x0 := heap_cell HX3.out (j := 0) rfl
        have y0 := heap_cell HY3.out (j := 0) rfl
        have f0 := heap_frozen HY3.out 0
        have x1 := heap_cell HX3.out (j := 1) rfl
        have y1 := heap_cell HY3.out (j := 1) rfl
        have f1 := heap_frozen HY3.out 1
        have x2 := heap_cell HX3.out (j := 2) rfl
        have y2 := heap_cell HY3.out (j := 2) rfl
        have f2 := heap_frozen HY3.out 2
        have x3 := heap_cell HX3.out (j := 3) rfl
        have y3 := heap_cell HY3.out (j := 3) rfl
        have f3 := heap_frozen HY3.out 3
        have x4 := heap_cell HX3.out (j := 4) rfl
        have y4 := heap_cell HY3.out (j := 4) rfl
        have f4 := heap_frozen HY3.out 4
        have x5 := heap_cell HX3.out (j := 5) rfl
        have y5 := heap_cell HY3.out (j := 5) rfl
        have f5 := heap_frozen HY3.out 5
        have x6 := heap_cell HX3.out (j := 6) rfl
        have y6 := heap_cell HY3.out (j := 6) rfl
        have f6 := heap_frozen HY3.out 6
        go_wp2_with fail
        refine bodyPost_ret (v := planV ⟨fr, a1, tn, c1, sd, ck, a2, an, c2, a3, sn, c3, bu⟩) (by simp [results, Try.results6, go_sem, y0, y1, y2, y3, y4, y5, y6]; try rfl) rfl ⟨a1, c1, a2, c2, a3, c3, rfl, ?_, ?_⟩
        · have HSZo := HSZ.out
          refine ⟨OwnNums.base (base := W0.heap.size) ?_ (by omega), OwnNums.base (base := W0.heap.size) ?_ (by omega), OwnNums.base (base := W0.heap.size) ?_ (by omega)⟩
          · repeat (first | with_reducible exact HO1.out | with_reducible refine OwnNums.set ?_ (by simp; omega) _)
          · repeat (first | with_reducible exact HO2.out | with_reducible refine OwnNums.set ?_ (by simp; omega) _)
          · repeat (first | with_reducible exact HO3.out | with_reducible refine OwnNums.set ?_ (by simp; omega) _)
        · repeat (first | with_reducible exact HB3.out | with_reducible refine Below.setCell ?_ (by simp) _)

end Go.Proofs.Ytacdbjandcdejaa
