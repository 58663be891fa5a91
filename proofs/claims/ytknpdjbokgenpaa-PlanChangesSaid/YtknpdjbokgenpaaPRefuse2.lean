/-
  The contract of the program's Refuse.
-/
import Derived.Test.YtknpdjbokgenpaaPDelete
namespace Go.Proofs.Ytknpdjbokgenpaa
open Go.RowKit

theorem OwnNums.ne {w : World} {base : Nat} {t : TypeId} {k : Nat} {a : Option Addr} {len cap : Nat} {F : Nat → Int} (h : OwnNums w base t k a len cap F) {i : Nat} {arr : Array Value} {t' : TypeId} (hi : w.heap[i]? = some (.cells arr t')) (ht : t ≠ t') (x : Addr) (hx : a = some x) : x.block ≠ i := by
  obtain ⟨_, ⟨h1, _⟩ | ⟨g, _, _, he, hb, hg, _⟩⟩ := h
  · subst hx; cases h1
  · subst hx
    simp only [Value.slice.injEq, Option.some.injEq] at he
    obtain ⟨rfl, _⟩ := he
    rintro rfl
    dsimp only at hi
    rw [hg] at hi
    simp only [Option.some.injEq, Obj.cells.injEq] at hi
    exact ht hi.2.1

set_option maxHeartbeats 8000000 in
set_option maxRecDepth 100000 in
theorem refuse_any (p : PlanX) (T A S : Nat → Int) (id : Int) (hn : p.tn ≤ 40) (ha : p.an ≤ 40) (hs : p.sn ≤ 40) (hz : NilPlan p) (w : World) (h : PlanAt w p T A S) :
    Calls Try.prog 8 #[planV p, .int .i64 id] w (RefuseOut p T A S id w) := by
  have HZ := Lib.hid hz
  clear hz
  obtain ⟨W, hW⟩ : ∃ W, ((w.alloc (planB p)).alloc (.cells #[.int .i64 id] 3)).alloc (planB noPlan) = W := ⟨_, rfl⟩
  have HB : Hid (Below w.heap.size w W) := Lib.hid (by rw [← hW]; exact ((below_new _ _).alloc (by simp) _).alloc (by simp; omega) _)
  have HX : Hid (W.heap[w.heap.size]? = some (planB p)) := Lib.hid (by rw [← hW]; exact heap_up (heap_up (heap_top _ _ rfl) _) _)
  have HI : Hid (W.heap[w.heap.size + 1]? = some (.cells #[.int .i64 id] 3)) := Lib.hid (by rw [← hW]; exact heap_up (heap_top _ _ (by simp)) _)
  have HY : Hid (W.heap[w.heap.size + 1 + 1]? = some (planB noPlan)) := Lib.hid (by rw [← hW]; exact heap_top _ _ (by simp))
  have HP : Hid (PlanAt W p T A S) := Lib.hid (h.below HB.out)
  clear h
  obtain ⟨r, hr⟩ : ∃ r, Pure.plan p T A S = r := ⟨_, rfl⟩
  have HR := Lib.hid hr
  clear hr
  have x0 := heap_cell HX.out (j := 0) rfl
  have x1 := heap_cell HX.out (j := 1) rfl
  have x2 := heap_cell HX.out (j := 2) rfl
  have x3 := heap_cell HX.out (j := 3) rfl
  have x4 := heap_cell HX.out (j := 4) rfl
  have x5 := heap_cell HX.out (j := 5) rfl
  have x6 := heap_cell HX.out (j := 6) rfl
  go_enter Try.func8, Try.ntmps8
  go_upto_region 1 with fail
  try rw [hW]
  clear hW
  go_wp2_with fail
  refine (check_any p T A S hn ha hs _ HP.out).mono ?_
  rintro e W1 ⟨rfl, hb⟩
  rw [HR.out]
  have HX1 := Lib.hid (heap_lft HX.out hb)
  have HI1 := Lib.hid (heap_lft HI.out hb)
  have HY1 := Lib.hid (heap_lft HY.out hb)
  have HP1 := Lib.hid (HP.out.below hb)
  have HB1 := Lib.hid (below_thn HB.out hb)
  clear hb
  clear x0 x1 x2 x3 x4 x5 x6
  have x0 := heap_cell HX1.out (j := 0) rfl
  have x1 := heap_cell HX1.out (j := 1) rfl
  have x2 := heap_cell HX1.out (j := 2) rfl
  have x3 := heap_cell HX1.out (j := 3) rfl
  have x4 := heap_cell HX1.out (j := 4) rfl
  have x5 := heap_cell HX1.out (j := 5) rfl
  have x6 := heap_cell HX1.out (j := 6) rfl
  have y0 := heap_cell HY1.out (j := 0) rfl
  have f0 := heap_frozen HY1.out 0
  have y1 := heap_cell HY1.out (j := 1) rfl
  have f1 := heap_frozen HY1.out 1
  have y2 := heap_cell HY1.out (j := 2) rfl
  have f2 := heap_frozen HY1.out 2
  have y3 := heap_cell HY1.out (j := 3) rfl
  have f3 := heap_frozen HY1.out 3
  have y4 := heap_cell HY1.out (j := 4) rfl
  have f4 := heap_frozen HY1.out 4
  have y5 := heap_cell HY1.out (j := 5) rfl
  have f5 := heap_frozen HY1.out 5
  have y6 := heap_cell HY1.out (j := 6) rfl
  have f6 := heap_frozen HY1.out 6
  cases r
  · have e1 : (Pure.err false 40 != 0) = true := rfl
    have e2 : Pure.err false 40 = 40 := rfl
    go_wp2_with fail
    refine bodyPost_ret (v := .tuple #[planV noPlan, .int .i64 40]) (by simp [results, Try.results8, go_sem, y0, y1, y2, y3, y4, y5, y6]; try rfl) rfl ⟨noPlan, 40, rfl, ?_, .inl ⟨HR.out, rfl, rfl⟩⟩
    repeat (first | with_reducible exact HB1.out | with_reducible refine Below.setCell ?_ (by first | (simp; done) | (dsimp only; omega)) _)
  · have e1 : (Pure.err true 40 != 0) = false := rfl
    go_wp2_with fail
    refine (copied_any p T A S hn ha hs HZ.out _ HP1.out).mono ?_
    rintro e W2 ⟨a1, c1, a2, c2, a3, c3, rfl, ho, hb, hap⟩
    have HAP := Lib.hid hap
    have HX2 := Lib.hid (heap_lft HX1.out hb)
    have HI2 := Lib.hid (heap_lft HI1.out hb)
    have HY2 := Lib.hid (heap_lft HY1.out hb)
    have HB2 := Lib.hid (below_thn HB1.out hb)
    have HO2 := Lib.hid ho
    have HS2 : Hid (W1.heap.size ≤ W2.heap.size ∧ w.heap.size + 1 + 1 < W1.heap.size) := Lib.hid ⟨hb.size, (Array.getElem?_eq_some_iff.1 HY1.out).1⟩
    clear hb ho hap e1 x0 y0 f0 x1 y1 f1 x2 y2 f2 x3 y3 f3 x4 y4 f4 x5 y5 f5 x6 y6 f6
    go_upto_region 5 with fail
    obtain ⟨V, hV⟩ : ∃ V, W2.alloc (planB (p.moved a1 c1 a2 c2 a3 c3)) = V := ⟨_, rfl⟩
    have hbv : Below W2.heap.size W2 V := by rw [← hV]; exact below_new _ _
    have HQV : Hid (V.heap[W2.heap.size]? = some (planB (p.moved a1 c1 a2 c2 a3 c3))) := Lib.hid (by rw [← hV]; exact heap_top _ _ rfl)
    have HSV : Hid (V.heap.size = W2.heap.size + 1) := Lib.hid (by rw [← hV]; simp)
    have HIV := Lib.hid (heap_lft HI2.out hbv)
    have HXV := Lib.hid (heap_lft HX2.out hbv)
    have HYV := Lib.hid (heap_lft HY2.out hbv)
    have HBV := Lib.hid (below_thn HB2.out hbv)
    have HOV := Lib.hid (HO2.out.below hbv)
    try rw [hV]
    clear hV hbv
    have v5 := heap_cell HQV.out (j := 5) rfl
    go_wp2_with fail
    refine (delete_any (w.heap.size + 1) id 3 a3 p.sn c3 S W1.heap.size hs V HIV.out (by have := HSV.out; have := HS2.out; omega) (by have := HS2.out; omega) HOV.out.s).mono ?_
    rintro e W3 ⟨a4, c4, rfl, ho4, hb, hk⟩
    have hs2 := HS2.out
    have hsv := HSV.out
    have HQ3 : Hid (W3.heap[W2.heap.size]? = some (planB (p.moved a1 c1 a2 c2 a3 c3))) := Lib.hid ((hk W2.heap.size (by omega) (fun b hb e => by have := (HO2.out.s.lt b hb).2; omega)).trans HQV.out)
    have HX3 : Hid (W3.heap[w.heap.size]? = some (planB p)) := Lib.hid ((hb.block _ (by omega)).trans HXV.out)
    have HY3 : Hid (W3.heap[w.heap.size + 1 + 1]? = some (planB noPlan)) := Lib.hid ((hb.block _ (by omega)).trans HYV.out)
    have HB3 : Hid (Below w.heap.size w W3) := Lib.hid (HBV.out.trans (hb.mono (by omega)))
    have HT3 := Lib.hid (HOV.out.t.kept (fun x hx => hk _ (HOV.out.t.lt x hx).2 (fun b hb => HAP.out.1 x b hx hb)))
    have HA3 := Lib.hid (HOV.out.a.kept (fun x hx => hk _ (HOV.out.a.lt x hx).2 (fun b hb => HAP.out.2.1 x b hx hb)))
    have HO4 := Lib.hid ho4
    clear ho4 hb hk v5 hs2 hsv
    have q5 := heap_cell HQ3.out (j := 5) rfl
    have f5 := heap_frozen HQ3.out 5
    go_upto_region 6 with fail
    obtain ⟨Z, hZ⟩ : ∃ Z, W3.setCell ⟨W2.heap.size, 5, none⟩ (.slice a4 (Pure.keepN S id p.sn) c4) = Z := ⟨_, rfl⟩
    have hs2 := HS2.out
    have HQZ : Hid (Z.heap[W2.heap.size]? = some (planB ⟨p.fr, a1, p.tn, c1, p.sd, p.ck, a2, p.an, c2, a4, Pure.keepN S id p.sn, c4, p.bu⟩)) := Lib.hid (by rw [← hZ]; exact heap_set HQ3.out 5 _)
    have HXZ : Hid (Z.heap[w.heap.size]? = some (planB p)) := Lib.hid (by rw [← hZ]; exact (Below.heap_setCell _ _ _ _ (by dsimp only; omega)).trans HX3.out)
    have HYZ : Hid (Z.heap[w.heap.size + 1 + 1]? = some (planB noPlan)) := Lib.hid (by rw [← hZ]; exact (Below.heap_setCell _ _ _ _ (by dsimp only; omega)).trans HY3.out)
    have HBZ : Hid (Below w.heap.size w Z) := Lib.hid (by rw [← hZ]; exact HB3.out.setCell (by dsimp only; omega) _)
    have HTZ := Lib.hid (HT3.out.kept (w' := Z) (fun x hx => by rw [← hZ]; exact Below.heap_setCell _ _ _ _ (HT3.out.ne HQ3.out (by decide) x hx)))
    have HAZ := Lib.hid (HA3.out.kept (w' := Z) (fun x hx => by rw [← hZ]; exact Below.heap_setCell _ _ _ _ (HA3.out.ne HQ3.out (by decide) x hx)))
    have HOZ := Lib.hid (HO4.out.kept (w' := Z) (fun x hx => by rw [← hZ]; exact Below.heap_setCell _ _ _ _ (HO4.out.ne HQ3.out (by decide) x hx)))
    try rw [hZ]
    clear hZ hs2 q5 f5
    have q0 := heap_cell HQZ.out (j := 0) rfl
    have q1 := heap_cell HQZ.out (j := 1) rfl
    have q2 := heap_cell HQZ.out (j := 2) rfl
    have q3 := heap_cell HQZ.out (j := 3) rfl
    have q4 := heap_cell HQZ.out (j := 4) rfl
    have q5 := heap_cell HQZ.out (j := 5) rfl
    have q6 := heap_cell HQZ.out (j := 6) rfl
    have x5 := heap_cell HXZ.out (j := 5) rfl
    have y0 := heap_cell HYZ.out (j := 0) rfl
    have f0 := heap_frozen HYZ.out 0
    have y1 := heap_cell HYZ.out (j := 1) rfl
    have f1 := heap_frozen HYZ.out 1
    have y2 := heap_cell HYZ.out (j := 2) rfl
    have f2 := heap_frozen HYZ.out 2
    have y3 := heap_cell HYZ.out (j := 3) rfl
    have f3 := heap_frozen HYZ.out 3
    have y4 := heap_cell HYZ.out (j := 4) rfl
    have f4 := heap_frozen HYZ.out 4
    have y5 := heap_cell HYZ.out (j := 5) rfl
    have f5 := heap_frozen HYZ.out 5
    have y6 := heap_cell HYZ.out (j := 6) rfl
    have f6 := heap_frozen HYZ.out 6
    by_cases hkn : Pure.keepN S id p.sn = p.sn
    · have HK := Lib.hid hkn
      rw [hkn] at q5
      clear hkn
      go_wp2_with fail
      refine bodyPost_ret (v := .tuple #[planV noPlan, .int .i64 6]) (by simp [results, Try.results8, go_sem, y0, y1, y2, y3, y4, y5, y6]; try rfl) rfl ⟨noPlan, 6, rfl, ?_, .inr (.inl ⟨HR.out, HK.out, rfl, rfl⟩)⟩
      repeat (first | with_reducible exact HBZ.out | with_reducible refine Below.setCell ?_ (by first | (simp; done) | (dsimp only; omega)) _)
    · have HK := Lib.hid hkn
      have hkc : ((Pure.keepN S id p.sn : Int) == (p.sn : Int)) = false := beq_eq_false_iff_ne.2 (fun e => hkn (by omega))
      clear hkn
      go_wp2_with fail
      refine bodyPost_ret (v := .tuple #[planV (⟨p.fr, a1, p.tn, c1, p.sd, p.ck, a2, p.an, c2, a4, Pure.keepN S id p.sn, c4, p.bu⟩ : PlanX), .int .i64 0]) (by simp [results, Try.results8, go_sem, y0, y1, y2, y3, y4, y5, y6]; try rfl) rfl ⟨(⟨p.fr, a1, p.tn, c1, p.sd, p.ck, a2, p.an, c2, a4, Pure.keepN S id p.sn, c4, p.bu⟩ : PlanX), 0, rfl, ?_, .inr (.inr ⟨HR.out, HK.out, rfl, a1, c1, a2, c2, a4, c4, rfl, ?_⟩)⟩
      repeat (first | with_reducible exact HBZ.out | with_reducible refine Below.setCell ?_ (by first | (simp; done) | (dsimp only; omega)) _)
      have hs2 := HS2.out
      refine ⟨OwnNums.base (base := W1.heap.size) ?_ (by omega), OwnNums.base (base := W1.heap.size) ?_ (by omega), OwnNums.base (base := W1.heap.size) ?_ (by omega)⟩
      · repeat (first | with_reducible exact HTZ.out | with_reducible refine OwnNums.set ?_ (by dsimp only; omega) _)
      · repeat (first | with_reducible exact HAZ.out | with_reducible refine OwnNums.set ?_ (by dsimp only; omega) _)
      · repeat (first | with_reducible exact HOZ.out | with_reducible refine OwnNums.set ?_ (by dsimp only; omega) _)

end Go.Proofs.Ytknpdjbokgenpaa
