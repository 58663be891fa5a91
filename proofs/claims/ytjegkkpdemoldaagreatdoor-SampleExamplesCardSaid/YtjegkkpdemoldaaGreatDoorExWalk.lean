/-
  SampleExamples: the walk.
-/
import Derived.Test.YtjegkkpdemoldaaGreatDoorExAll
import Derived.Test.YtjegkkpdemoldaaGreatDoorHeldA
namespace Go.Proofs.YtjegkkpdemoldaaGreatDoor
open Go.RowKit Go.Shelf

theorem held_take {P : Program} {ops : Array Oper} {Q : Exit → Act → World → Prop} {md : Region.Mode} {S : World → Prop} {i : Nat} {oi : Oper} {d : Option Tmp} {v : Value} {fuel : Nat} {listed : Array Bool} {a : Act} {w : World} (hi : ops[i]? = some oi) (hd : oi.dst = d)
    (hs : Region.noSelect ops = true) (hf : Region.free md ops listed i = true) (hr : (Region.ready md ops listed).contains i = true)
    (hQ : ∀ c a w, Q (.panic c) (a.put oi.dst v) w → Q (.panic c) a w) (hy : YieldsIf P ops S oi v a) (hS : S w)
    (h : wpAnyH P md ops Q S fuel (listed.setIfInBounds i true) (a.put d v) w) : wpAnyH P md ops Q S (fuel + 1) listed a w := by
  subst hd
  exact wpAnyH_take hi hs hf hr hQ hy hS h
theorem held_takeL {P : Program} {ops : Array Oper} {Q : Exit → Act → World → Prop} {md : Region.Mode} {S : World → Prop} {i : Nat} {oi : Oper} {d : Option Tmp} {v : Value} {fuel : Nat} {listed : Array Bool} {a : Act} {w : World} (l' : Array Bool) (hi : ops[i]? = some oi) (hd : oi.dst = d)
    (hs : Region.noSelect ops = true) (hf : Region.free md ops listed i = true) (hr : (Region.ready md ops listed).contains i = true) (hl : listed.setIfInBounds i true = l')
    (hQ : ∀ c a w, Q (.panic c) (a.put oi.dst v) w → Q (.panic c) a w) (hy : YieldsIf P ops S oi v a) (hS : S w)
    (h : wpAnyH P md ops Q S fuel l' (a.put d v) w) : wpAnyH P md ops Q S (fuel + 1) listed a w := by
  subst hd
  subst hl
  exact wpAnyH_take hi hs hf hr hQ hy hS h
theorem held_stepL {P : Program} {ops : Array Oper} {Q : Exit → Act → World → Prop} {md : Region.Mode} {S : World → Prop} {i : Nat} {o : Oper} {fuel : Nat} {listed : Array Bool} {a : Act} {w : World} (l' : Array Bool) (ho : ops[i]? = some o)
    (hr : Region.ready md ops listed = [i]) (hl : listed.setIfInBounds i true = l')
    (h : ∀ K : Act → World → Prop, (∀ a w, (S w ∧ wpAnyH P md ops Q S fuel l' a w) → K a w) → if Region.wanted o (yielded ops a.tmps) = true then Oper.wp P o a w K Q else K (a.put o.dst undef) w) :
    wpAnyH P md ops Q S (fuel + 1) listed a w := by
  subst hl
  refine wpAnyH_all hr (by simp) (fun j hj => ?_)
  obtain rfl : j = i := by simpa using hj
  exact wpOp_step ho h
theorem held_and {p q : Prop} (h : p) (k : p → q) : p ∧ q := ⟨h, k h⟩
/-- A frame of a few slots. -/
def litEval (l : List (Nat × Value)) : Operand → Value
  | .tmp t => (l.lookup t).getD undef
  | .const v => v
  | .global g => .pointer (some ⟨g, 0, none⟩)
  | .func f => .func (.func f) #[] #[]
theorem held_build {P : Program} {a : Act} {o : Oper} {w w' : World} {v : Value} (l : List (Nat × Value)) (hs : ∀ cs b, o.op ≠ .select cs b) (h : ∀ x ∈ o.op.operands, a.eval x = litEval l x) (hr : (execOp (litEval l) o).run P w = .ok (.value v) w') : (execOp a.eval o).run P w = .ok (.value v) w' := by
  rw [execOp_congr o hs h]
  exact hr

theorem lit_ints1 {z : World} {B : Nat} {a : Int} {t : TypeId} (h : z.heap[B]? = some (.cells #[.int .i64 a] t)) : IntsAt z (.slice (some ⟨B, 0, none⟩) 1 1) [a] :=
  ⟨some ⟨B, 0, none⟩, 1, rfl, fun j x hj => ⟨B, rfl, by
    have hl := (List.getElem?_eq_some_iff.1 hj).1
    obtain rfl : j = 0 := by simp at hl; omega
    simp at hj
    subst hj
    exact heap_cell h rfl⟩⟩
theorem lit_ints2 {z : World} {B : Nat} {a b : Int} {t : TypeId} (h : z.heap[B]? = some (.cells #[.int .i64 a, .int .i64 b] t)) : IntsAt z (.slice (some ⟨B, 0, none⟩) 2 2) [a, b] :=
  ⟨some ⟨B, 0, none⟩, 2, rfl, fun j x hj => ⟨B, rfl, by
    have hl := (List.getElem?_eq_some_iff.1 hj).1
    have h2 : j = 0 ∨ j = 1 := by simp at hl; omega
    rcases h2 with rfl | rfl
    · simp at hj
      subst hj
      exact heap_cell h rfl
    · simp at hj
      subst hj
      exact heap_cell h rfl⟩⟩
theorem lit_terms2 {z : World} {B : Nat} {t : TypeId} (h : z.heap[B]? = some (.cells #[.int .i64 5, .int .i64 3, .int .i64 6, .int .i64 2] t)) : TermsAt z (some ⟨B, 0, none⟩) 2 erF erP := fun j hj => by
  have h2 : j = 0 ∨ j = 1 := by omega
  rcases h2 with rfl | rfl
  · exact ⟨B, 0, rfl, heap_cell h rfl, heap_cell h rfl⟩
  · exact ⟨B, 0, rfl, heap_cell h rfl, heap_cell h rfl⟩
theorem lit_parts4 {z : World} {B : Nat} {t : TypeId} (h : z.heap[B]? = some (.cells #[.int .i64 1, .int .i64 1, .int .i64 7, .int .i64 10, .int .i64 7, .int .i64 15, .int .i64 7, .int .i64 24] t)) : TermsAt z (some ⟨B, 0, none⟩) 4 cvN cvD := fun j hj => by
  have h2 : j = 0 ∨ j = 1 ∨ j = 2 ∨ j = 3 := by omega
  rcases h2 with rfl | rfl | rfl | rfl
  · exact ⟨B, 0, rfl, heap_cell h rfl, heap_cell h rfl⟩
  · exact ⟨B, 0, rfl, heap_cell h rfl, heap_cell h rfl⟩
  · exact ⟨B, 0, rfl, heap_cell h rfl, heap_cell h rfl⟩
  · exact ⟨B, 0, rfl, heap_cell h rfl, heap_cell h rfl⟩

set_option maxHeartbeats 400000000 in
set_option maxRecDepth 100000 in
theorem examples_walk (w : World) : Calls Tryz.prog 3 #[] w fun e w' => e = .returned (.bool true) ∧ Below w.heap.size w w' := by
  go_enter Tryz.func3, Tryz.ntmps3
  go_wp2_with fail
  refine (error_any _).mono ?_
  rintro e w' ⟨rfl, rfl⟩
  go_wp2_with fail
  refine (alive_any _).mono ?_
  rintro e wa ⟨rfl, hb⟩
  have HB := Lib.hid hb
  clear hb
  go_wp2_with fail
  refine (bags_any _ _).mono ?_
  rintro e wb ⟨rfl, hb⟩
  replace HB := Lib.hid (below_then HB.out hb)
  clear hb
  go_wp2_with fail
  refine (bags_any _ _).mono ?_
  rintro e wb2 ⟨rfl, hb⟩
  replace HB := Lib.hid (below_then HB.out hb)
  clear hb
  go_wp2_with fail
  obtain ⟨w0, hW⟩ : ∃ W, (wb2.alloc (.cells #[.int .i64 10, .int .i64 0, .int .i64 10] 28)).alloc (.cells #[.int .i64 10, .int .i64 0, .int .i64 3] 28) = W := ⟨_, rfl⟩
  have HC : Hid (w0.heap[wb2.heap.size]? = some (.cells #[.int .i64 10, .int .i64 0, .int .i64 10] 28)) := Lib.hid (by rw [← hW]; exact heap_up (heap_top _ _ rfl) _)
  have HF : Hid (w0.heap[wb2.heap.size + 1]? = some (.cells #[.int .i64 10, .int .i64 0, .int .i64 3] 28)) := Lib.hid (by rw [← hW]; exact heap_top _ _ (by simp))
  replace HB : Hid (Below w.heap.size w w0) := Lib.hid (by rw [← hW]; exact (HB.out.alloc HB.out.size _).alloc (by have := HB.out.size; simp; omega) _)
  rw [hW]
  clear hW
  obtain ⟨Bc, hBc⟩ : ∃ b, wb2.heap.size = b := ⟨_, rfl⟩
  rw [hBc] at HC HF ⊢
  clear hBc
  refine (exMean _).mono ?_
  rintro e w1 ⟨rfl, hb⟩
  have hb2 := hb.alloc hb.size (.cells #[.int .i64 6, .int .i64 5] 31)
  replace HC := Lib.hid (heap_lift HC.out hb2)
  replace HF := Lib.hid (heap_lift HF.out hb2)
  replace HB := Lib.hid (below_then HB.out hb2)
  have HM := Lib.hid (heap_top w1 (.cells #[.int .i64 6, .int .i64 5] 31) rfl)
  obtain ⟨w2, hW⟩ : ∃ W, w1.alloc (.cells #[.int .i64 6, .int .i64 5] 31) = W := ⟨_, rfl⟩
  rw [hW] at HC HF HB HM
  clear hb hb2
  go_wp2_with fail
  clear hW
  go_cut [5, 6] from 55 to 61 (fun s t wx => BoxAt wx s #[.int .i64 7, .int .i64 0, .int .i64 7] 28 w2.heap.size ∧ t = .int .i64 0 ∧ Below w2.heap.size w2 wx)
  case first =>
    as_aux_lemma =>
      refine wp_region_held (S := fun z => z.heap[Bc]? = some (.cells #[.int .i64 10, .int .i64 0, .int .i64 10] 28)) (by kernel_rfl) ?_
      obtain ⟨wz, hwz⟩ : ∃ x, w2.drew = x := ⟨_, rfl⟩
      change wpAnyH _ _ _ _ _ _ _ _ (w2.drew)
      rw [hwz]
      have hq : Below w2.heap.size w2 wz := by rw [← hwz]; exact (Below.refl _ _).drew
      have HS : Hid (wz.heap[Bc]? = some (.cells #[.int .i64 10, .int .i64 0, .int .i64 10] 28)) := Lib.hid (heap_lift HC.out hq)
      clear hwz
      skip
      refine held_take (i := 0) (d := some 56) (v := cargoV 10 0 10) rfl rfl (by kernel_rfl) (by kernel_rfl) (by kernel_rfl) (fun _ _ _ h => h) (Or.inl ⟨by rfl, fun z hz => by (have k0 := heap_cell hz (j := 0) rfl; have k1 := heap_cell hz (j := 1) rfl; have k2 := heap_cell hz (j := 2) rfl; go_simp)⟩) HS.out ?_
      simp only [Act.put, List.setIfInBounds_toArray, List.set_cons_zero, List.set_cons_succ]
      refine wpAnyH_all (rs := [1, 6]) (by kernel_rfl) (by simp) (fun i hi => ?_)
      rcases (by simpa using hi : i = 1 ∨ i = 6) with rfl | rfl
      · clear hi
        refine wpOp_step rfl (fun K hK => ?_)
        go_simp
        with_reducible refine (drawn_any 3 1 _).mono ?_
        rintro e w3 ⟨rfl, hb⟩
        replace hq := below_then hq hb
        clear hb
        dsimp only
        refine hK _ _ (held_and (heap_lift HC.out hq) (fun hs => ?_))
        clear hK K
        replace HS := Lib.hid hs
        clear hs
        refine wpAnyH_all (rs := [2, 6]) (by kernel_rfl) (by simp) (fun i hi => ?_)
        rcases (by simpa using hi : i = 2 ∨ i = 6) with rfl | rfl
        · clear hi
          refine wpOp_step rfl (fun K hK => ?_)
          go_simp
          with_reducible refine (exRest _).mono ?_
          rintro e w4 ⟨rfl, hb⟩
          replace hq := below_then hq hb
          clear hb
          dsimp only
          refine hK _ _ (held_and (heap_lift HC.out hq) (fun hs => ?_))
          clear hK K
          replace HS := Lib.hid hs
          clear hs
          refine held_take (i := 3) (d := some 55) (v := .tuple #[cargoV 7 0 7, .int .i64 0]) rfl rfl (by kernel_rfl) (by kernel_rfl) (by kernel_rfl) (fun _ _ _ h => h) (Or.inl ⟨by rfl, fun z hz => by (go_simp)⟩) HS.out ?_
          simp only [Act.put, List.setIfInBounds_toArray, List.set_cons_zero, List.set_cons_succ]
          refine held_take (i := 4) (d := some 59) (v := cargoV 7 0 7) rfl rfl (by kernel_rfl) (by kernel_rfl) (by kernel_rfl) (fun _ _ _ h => h) (Or.inl ⟨by rfl, fun z hz => by (go_simp)⟩) HS.out ?_
          simp only [Act.put, List.setIfInBounds_toArray, List.set_cons_zero, List.set_cons_succ]
          refine held_take (i := 5) (d := some 60) (v := .int .i64 0) rfl rfl (by kernel_rfl) (by kernel_rfl) (by kernel_rfl) (fun _ _ _ h => h) (Or.inl ⟨by rfl, fun z hz => by (go_simp)⟩) HS.out ?_
          simp only [Act.put, List.setIfInBounds_toArray, List.set_cons_zero, List.set_cons_succ]
          refine wpAnyH_all (rs := [6]) (by kernel_rfl) (by simp) (fun i hi => ?_)
          obtain rfl : i = 6 := by simpa using hi
          clear hi
          refine wpOp_step rfl (fun K hK => ?_)
          go_simp
          obtain ⟨w5, hua⟩ : ∃ x, w4.alloc (.cells #[.int .i64 0, .int .i64 0, .int .i64 0] 28) = x := ⟨_, rfl⟩
          have hb : Below w4.heap.size w4 w5 := by rw [← hua]; exact (Below.refl _ _).alloc (Nat.le_refl _) _
          have hz : w5.heap[w4.heap.size]? = some (.cells #[.int .i64 0, .int .i64 0, .int .i64 0] 28) := by rw [← hua]; exact heap_top _ _ rfl
          have hge : w2.heap.size ≤ w4.heap.size := hq.size
          rw [hua]
          clear hua
          replace hq := below_then hq hb
          clear hb
          refine hK _ _ (held_and (heap_lift HC.out hq) (fun hs => ?_))
          clear hK K
          replace HS := Lib.hid hs
          clear hs
          have r0 := heap_cell hz (j := 0) rfl
          have f0 := heap_frozen hz 0
          have r1 := heap_cell hz (j := 1) rfl
          have f1 := heap_frozen hz 1
          have r2 := heap_cell hz (j := 2) rfl
          have f2 := heap_frozen hz 2
          refine wpAnyH_all (rs := [7]) (by kernel_rfl) (by simp) (fun i hi => ?_)
          obtain rfl : i = 7 := by simpa using hi
          clear hi
          refine wpOp_step rfl (fun K hK => ?_)
          go_simp
          refine hK _ _ (held_and ((Below.heap_setCell _ _ _ _ (by have := (Array.getElem?_eq_some_iff.1 HC.out).1; simp; omega)).trans ((Below.heap_setCell _ _ _ _ (by have := (Array.getElem?_eq_some_iff.1 HC.out).1; simp; omega)).trans ((Below.heap_setCell _ _ _ _ (by have := (Array.getElem?_eq_some_iff.1 HC.out).1; simp; omega)).trans (HS.out)))) (fun hs => ?_))
          clear hK K
          replace HS := Lib.hid hs
          clear hs r0 f0 r1 f1 r2 f2
          refine held_take (i := 8) (d := some 6) (v := .int .i64 0) rfl rfl (by kernel_rfl) (by kernel_rfl) (by kernel_rfl) (fun _ _ _ h => h) (Or.inl ⟨by rfl, fun z hz => by (go_simp)⟩) HS.out ?_
          simp only [Act.put, List.setIfInBounds_toArray, List.set_cons_zero, List.set_cons_succ]
          refine wpAnyH_done (by kernel_rfl) ?_ _
          go_wp2_with fail
          go_meet
          exact ⟨⟨_, rfl, hge, heap_set (heap_set (heap_set (hz) 0 _) 1 _) 2 _⟩, rfl, (((hq.setCell (p := ⟨w4.heap.size, 0, none⟩) hge _).setCell (p := ⟨w4.heap.size, 1, none⟩) hge _).setCell (p := ⟨w4.heap.size, 2, none⟩) hge _)⟩
        · clear hi
          refine wpOp_step rfl (fun K hK => ?_)
          go_simp
          obtain ⟨w6, hua⟩ : ∃ x, w3.alloc (.cells #[.int .i64 0, .int .i64 0, .int .i64 0] 28) = x := ⟨_, rfl⟩
          have hb : Below w3.heap.size w3 w6 := by rw [← hua]; exact (Below.refl _ _).alloc (Nat.le_refl _) _
          have hz : w6.heap[w3.heap.size]? = some (.cells #[.int .i64 0, .int .i64 0, .int .i64 0] 28) := by rw [← hua]; exact heap_top _ _ rfl
          have hge : w2.heap.size ≤ w3.heap.size := hq.size
          rw [hua]
          clear hua
          replace hq := below_then hq hb
          clear hb
          refine hK _ _ (held_and (heap_lift HC.out hq) (fun hs => ?_))
          clear hK K
          replace HS := Lib.hid hs
          clear hs
          refine wpAnyH_all (rs := [2]) (by kernel_rfl) (by simp) (fun i hi => ?_)
          obtain rfl : i = 2 := by simpa using hi
          clear hi
          refine wpOp_step rfl (fun K hK => ?_)
          go_simp
          with_reducible refine (exRest _).mono ?_
          rintro e w7 ⟨rfl, hb⟩
          replace hq := below_then hq hb
          replace hz := heap_lift hz hb
          clear hb
          dsimp only
          refine hK _ _ (held_and (heap_lift HC.out hq) (fun hs => ?_))
          clear hK K
          replace HS := Lib.hid hs
          clear hs
          refine held_take (i := 3) (d := some 55) (v := .tuple #[cargoV 7 0 7, .int .i64 0]) rfl rfl (by kernel_rfl) (by kernel_rfl) (by kernel_rfl) (fun _ _ _ h => h) (Or.inl ⟨by rfl, fun z hz => by (go_simp)⟩) HS.out ?_
          simp only [Act.put, List.setIfInBounds_toArray, List.set_cons_zero, List.set_cons_succ]
          refine held_take (i := 4) (d := some 59) (v := cargoV 7 0 7) rfl rfl (by kernel_rfl) (by kernel_rfl) (by kernel_rfl) (fun _ _ _ h => h) (Or.inl ⟨by rfl, fun z hz => by (go_simp)⟩) HS.out ?_
          simp only [Act.put, List.setIfInBounds_toArray, List.set_cons_zero, List.set_cons_succ]
          refine held_take (i := 5) (d := some 60) (v := .int .i64 0) rfl rfl (by kernel_rfl) (by kernel_rfl) (by kernel_rfl) (fun _ _ _ h => h) (Or.inl ⟨by rfl, fun z hz => by (go_simp)⟩) HS.out ?_
          simp only [Act.put, List.setIfInBounds_toArray, List.set_cons_zero, List.set_cons_succ]
          have r0 := heap_cell hz (j := 0) rfl
          have f0 := heap_frozen hz 0
          have r1 := heap_cell hz (j := 1) rfl
          have f1 := heap_frozen hz 1
          have r2 := heap_cell hz (j := 2) rfl
          have f2 := heap_frozen hz 2
          refine wpAnyH_all (rs := [7]) (by kernel_rfl) (by simp) (fun i hi => ?_)
          obtain rfl : i = 7 := by simpa using hi
          clear hi
          refine wpOp_step rfl (fun K hK => ?_)
          go_simp
          refine hK _ _ (held_and ((Below.heap_setCell _ _ _ _ (by have := (Array.getElem?_eq_some_iff.1 HC.out).1; simp; omega)).trans ((Below.heap_setCell _ _ _ _ (by have := (Array.getElem?_eq_some_iff.1 HC.out).1; simp; omega)).trans ((Below.heap_setCell _ _ _ _ (by have := (Array.getElem?_eq_some_iff.1 HC.out).1; simp; omega)).trans (HS.out)))) (fun hs => ?_))
          clear hK K
          replace HS := Lib.hid hs
          clear hs r0 f0 r1 f1 r2 f2
          refine held_take (i := 8) (d := some 6) (v := .int .i64 0) rfl rfl (by kernel_rfl) (by kernel_rfl) (by kernel_rfl) (fun _ _ _ h => h) (Or.inl ⟨by rfl, fun z hz => by (go_simp)⟩) HS.out ?_
          simp only [Act.put, List.setIfInBounds_toArray, List.set_cons_zero, List.set_cons_succ]
          refine wpAnyH_done (by kernel_rfl) ?_ _
          go_wp2_with fail
          go_meet
          exact ⟨⟨_, rfl, hge, heap_set (heap_set (heap_set (hz) 0 _) 1 _) 2 _⟩, rfl, (((hq.setCell (p := ⟨w3.heap.size, 0, none⟩) hge _).setCell (p := ⟨w3.heap.size, 1, none⟩) hge _).setCell (p := ⟨w3.heap.size, 2, none⟩) hge _)⟩
      · clear hi
        refine wpOp_step rfl (fun K hK => ?_)
        go_simp
        obtain ⟨w8, hua⟩ : ∃ x, wz.alloc (.cells #[.int .i64 0, .int .i64 0, .int .i64 0] 28) = x := ⟨_, rfl⟩
        have hb : Below wz.heap.size wz w8 := by rw [← hua]; exact (Below.refl _ _).alloc (Nat.le_refl _) _
        have hz : w8.heap[wz.heap.size]? = some (.cells #[.int .i64 0, .int .i64 0, .int .i64 0] 28) := by rw [← hua]; exact heap_top _ _ rfl
        have hge : w2.heap.size ≤ wz.heap.size := hq.size
        rw [hua]
        clear hua
        replace hq := below_then hq hb
        clear hb
        refine hK _ _ (held_and (heap_lift HC.out hq) (fun hs => ?_))
        clear hK K
        replace HS := Lib.hid hs
        clear hs
        refine wpAnyH_all (rs := [1]) (by kernel_rfl) (by simp) (fun i hi => ?_)
        obtain rfl : i = 1 := by simpa using hi
        clear hi
        refine wpOp_step rfl (fun K hK => ?_)
        go_simp
        with_reducible refine (drawn_any 3 1 _).mono ?_
        rintro e w9 ⟨rfl, hb⟩
        replace hq := below_then hq hb
        replace hz := heap_lift hz hb
        clear hb
        dsimp only
        refine hK _ _ (held_and (heap_lift HC.out hq) (fun hs => ?_))
        clear hK K
        replace HS := Lib.hid hs
        clear hs
        refine wpAnyH_all (rs := [2]) (by kernel_rfl) (by simp) (fun i hi => ?_)
        obtain rfl : i = 2 := by simpa using hi
        clear hi
        refine wpOp_step rfl (fun K hK => ?_)
        go_simp
        with_reducible refine (exRest _).mono ?_
        rintro e w10 ⟨rfl, hb⟩
        replace hq := below_then hq hb
        replace hz := heap_lift hz hb
        clear hb
        dsimp only
        refine hK _ _ (held_and (heap_lift HC.out hq) (fun hs => ?_))
        clear hK K
        replace HS := Lib.hid hs
        clear hs
        refine held_take (i := 3) (d := some 55) (v := .tuple #[cargoV 7 0 7, .int .i64 0]) rfl rfl (by kernel_rfl) (by kernel_rfl) (by kernel_rfl) (fun _ _ _ h => h) (Or.inl ⟨by rfl, fun z hz => by (go_simp)⟩) HS.out ?_
        simp only [Act.put, List.setIfInBounds_toArray, List.set_cons_zero, List.set_cons_succ]
        refine held_take (i := 4) (d := some 59) (v := cargoV 7 0 7) rfl rfl (by kernel_rfl) (by kernel_rfl) (by kernel_rfl) (fun _ _ _ h => h) (Or.inl ⟨by rfl, fun z hz => by (go_simp)⟩) HS.out ?_
        simp only [Act.put, List.setIfInBounds_toArray, List.set_cons_zero, List.set_cons_succ]
        refine held_take (i := 5) (d := some 60) (v := .int .i64 0) rfl rfl (by kernel_rfl) (by kernel_rfl) (by kernel_rfl) (fun _ _ _ h => h) (Or.inl ⟨by rfl, fun z hz => by (go_simp)⟩) HS.out ?_
        simp only [Act.put, List.setIfInBounds_toArray, List.set_cons_zero, List.set_cons_succ]
        have r0 := heap_cell hz (j := 0) rfl
        have f0 := heap_frozen hz 0
        have r1 := heap_cell hz (j := 1) rfl
        have f1 := heap_frozen hz 1
        have r2 := heap_cell hz (j := 2) rfl
        have f2 := heap_frozen hz 2
        refine wpAnyH_all (rs := [7]) (by kernel_rfl) (by simp) (fun i hi => ?_)
        obtain rfl : i = 7 := by simpa using hi
        clear hi
        refine wpOp_step rfl (fun K hK => ?_)
        go_simp
        refine hK _ _ (held_and ((Below.heap_setCell _ _ _ _ (by have := (Array.getElem?_eq_some_iff.1 HC.out).1; simp; omega)).trans ((Below.heap_setCell _ _ _ _ (by have := (Array.getElem?_eq_some_iff.1 HC.out).1; simp; omega)).trans ((Below.heap_setCell _ _ _ _ (by have := (Array.getElem?_eq_some_iff.1 HC.out).1; simp; omega)).trans (HS.out)))) (fun hs => ?_))
        clear hK K
        replace HS := Lib.hid hs
        clear hs r0 f0 r1 f1 r2 f2
        refine held_take (i := 8) (d := some 6) (v := .int .i64 0) rfl rfl (by kernel_rfl) (by kernel_rfl) (by kernel_rfl) (fun _ _ _ h => h) (Or.inl ⟨by rfl, fun z hz => by (go_simp)⟩) HS.out ?_
        simp only [Act.put, List.setIfInBounds_toArray, List.set_cons_zero, List.set_cons_succ]
        refine wpAnyH_done (by kernel_rfl) ?_ _
        go_wp2_with fail
        go_meet
        exact ⟨⟨_, rfl, hge, heap_set (heap_set (heap_set (hz) 0 _) 1 _) 2 _⟩, rfl, (((hq.setCell (p := ⟨wz.heap.size, 0, none⟩) hge _).setCell (p := ⟨wz.heap.size, 1, none⟩) hge _).setCell (p := ⟨wz.heap.size, 2, none⟩) hge _)⟩
  case rest =>
    obtain ⟨w11, rfl⟩ : ∃ x, x = wc := ⟨_, rfl⟩
    obtain ⟨⟨BHR, rfl, _, hh⟩, rfl, hb⟩ := hcut
    replace HC := Lib.hid (heap_lift HC.out hb)
    replace HF := Lib.hid (heap_lift HF.out hb)
    replace HM := Lib.hid (heap_lift HM.out hb)
    replace HB := Lib.hid (below_then HB.out hb)
    have HR := Lib.hid hh
    clear hb hh
    go_wp2_with fail
    refine wp_region_held (S := fun z => z.heap[Bc]? = some (.cells #[.int .i64 10, .int .i64 0, .int .i64 10] 28)) (by kernel_rfl) ?_
    obtain ⟨wz, hwz⟩ : ∃ x, w11.drew = x := ⟨_, rfl⟩
    change wpAnyH _ _ _ _ _ _ _ _ (w11.drew)
    rw [hwz]
    have hq : Below w11.heap.size w11 wz := by rw [← hwz]; exact (Below.refl _ _).drew
    have HS : Hid (wz.heap[Bc]? = some (.cells #[.int .i64 10, .int .i64 0, .int .i64 10] 28)) := Lib.hid (heap_lift HC.out hq)
    clear hwz
    skip
    refine held_take (i := 0) (d := some 62) (v := cargoV 10 0 10) rfl rfl (by kernel_rfl) (by kernel_rfl) (by kernel_rfl) (fun _ _ _ h => h) (Or.inl ⟨by rfl, fun z hz => by (have k0 := heap_cell hz (j := 0) rfl; have k1 := heap_cell hz (j := 1) rfl; have k2 := heap_cell hz (j := 2) rfl; go_simp)⟩) HS.out ?_
    simp only [Act.put, List.setIfInBounds_toArray, List.set_cons_zero, List.set_cons_succ]
    refine wpAnyH_all (rs := [1]) (by kernel_rfl) (by simp) (fun i hi => ?_)
    obtain rfl : i = 1 := by simpa using hi
    clear hi
    refine wpOp_step rfl (fun K hK => ?_)
    go_simp
    with_reducible refine (drawn_any 4 2 _).mono ?_
    rintro e w12 ⟨rfl, hb⟩
    replace hq := below_then hq hb
    clear hb
    dsimp only
    refine hK _ _ (held_and (heap_lift HC.out hq) (fun hs => ?_))
    clear hK K
    replace HS := Lib.hid hs
    clear hs
    refine wpAnyH_all (rs := [2]) (by kernel_rfl) (by simp) (fun i hi => ?_)
    obtain rfl : i = 2 := by simpa using hi
    clear hi
    refine wpOp_step rfl (fun K hK => ?_)
    go_simp
    with_reducible refine (exLikely1 _).mono ?_
    rintro e w13 ⟨v5, rfl, hi, hb⟩
    replace hq := below_then hq hb
    have H5 := Lib.hid hi
    clear hi
    clear hb
    dsimp only
    refine hK _ _ (held_and (heap_lift HC.out hq) (fun hs => ?_))
    clear hK K
    replace HS := Lib.hid hs
    clear hs
    refine held_take (i := 3) (d := some 61) (v := .tuple #[v5, .int .i64 0]) rfl rfl (by kernel_rfl) (by kernel_rfl) (by kernel_rfl) (fun _ _ _ h => h) (Or.inl ⟨by rfl, fun z hz => by (go_simp)⟩) HS.out ?_
    simp only [Act.put, List.setIfInBounds_toArray, List.set_cons_zero, List.set_cons_succ]
    refine held_take (i := 4) (d := some 65) (v := v5) rfl rfl (by kernel_rfl) (by kernel_rfl) (by kernel_rfl) (fun _ _ _ h => h) (Or.inl ⟨by rfl, fun z hz => by (go_simp)⟩) HS.out ?_
    simp only [Act.put, List.setIfInBounds_toArray, List.set_cons_zero, List.set_cons_succ]
    refine held_take (i := 5) (d := some 66) (v := .int .i64 0) rfl rfl (by kernel_rfl) (by kernel_rfl) (by kernel_rfl) (fun _ _ _ h => h) (Or.inl ⟨by rfl, fun z hz => by (go_simp)⟩) HS.out ?_
    simp only [Act.put, List.setIfInBounds_toArray, List.set_cons_zero, List.set_cons_succ]
    refine held_take (i := 6) (d := some 7) (v := v5) rfl rfl (by kernel_rfl) (by kernel_rfl) (by kernel_rfl) (fun _ _ _ h => h) (Or.inl ⟨by rfl, fun z hz => by (go_simp)⟩) HS.out ?_
    simp only [Act.put, List.setIfInBounds_toArray, List.set_cons_zero, List.set_cons_succ]
    refine held_take (i := 7) (d := some 8) (v := .int .i64 0) rfl rfl (by kernel_rfl) (by kernel_rfl) (by kernel_rfl) (fun _ _ _ h => h) (Or.inl ⟨by rfl, fun z hz => by (go_simp)⟩) HS.out ?_
    simp only [Act.put, List.setIfInBounds_toArray, List.set_cons_zero, List.set_cons_succ]
    refine wpAnyH_done (by kernel_rfl) ?_ _
    replace HC := Lib.hid (heap_lift HC.out hq)
    replace HF := Lib.hid (heap_lift HF.out hq)
    replace HM := Lib.hid (heap_lift HM.out hq)
    replace HR := Lib.hid (heap_lift HR.out hq)
    replace HB := Lib.hid (below_then HB.out hq)
    clear hq HS
    go_wp2_with fail
    refine (bags_any _ _).mono ?_
    rintro e w14 ⟨rfl, hb⟩
    replace HC := Lib.hid (heap_lift HC.out hb)
    replace HF := Lib.hid (heap_lift HF.out hb)
    replace HM := Lib.hid (heap_lift HM.out hb)
    replace HR := Lib.hid (heap_lift HR.out hb)
    replace H5 := Lib.hid (H5.out.below hb)
    replace HB := Lib.hid (below_then HB.out hb)
    clear hb
    go_wp2_with fail
    refine (drawn_any _ _ _).mono ?_
    rintro e w15 ⟨rfl, hb⟩
    replace HC := Lib.hid (heap_lift HC.out hb)
    replace HF := Lib.hid (heap_lift HF.out hb)
    replace HM := Lib.hid (heap_lift HM.out hb)
    replace HR := Lib.hid (heap_lift HR.out hb)
    replace H5 := Lib.hid (H5.out.below hb)
    replace HB := Lib.hid (below_then HB.out hb)
    clear hb
    go_wp2_with fail
    refine (exLikely2 _).mono ?_
    rintro e w16 ⟨v9, rfl, hi, hb⟩
    replace HC := Lib.hid (heap_lift HC.out hb)
    replace HF := Lib.hid (heap_lift HF.out hb)
    replace HM := Lib.hid (heap_lift HM.out hb)
    replace HR := Lib.hid (heap_lift HR.out hb)
    replace H5 := Lib.hid (H5.out.below hb)
    replace HB := Lib.hid (below_then HB.out hb)
    clear hb
    have H9 := Lib.hid hi
    clear hi
    go_wp2_with fail
    refine wp_region_held (S := fun z => z.heap[Bc]? = some (.cells #[.int .i64 10, .int .i64 0, .int .i64 10] 28)) (by kernel_rfl) ?_
    obtain ⟨wz, hwz⟩ : ∃ x, w16.drew = x := ⟨_, rfl⟩
    change wpAnyH _ _ _ _ _ _ _ _ (w16.drew)
    rw [hwz]
    have hq : Below w16.heap.size w16 wz := by rw [← hwz]; exact (Below.refl _ _).drew
    have HS : Hid (wz.heap[Bc]? = some (.cells #[.int .i64 10, .int .i64 0, .int .i64 10] 28)) := Lib.hid (heap_lift HC.out hq)
    clear hwz
    skip
    refine held_take (i := 0) (d := some 74) (v := cargoV 10 0 10) rfl rfl (by kernel_rfl) (by kernel_rfl) (by kernel_rfl) (fun _ _ _ h => h) (Or.inl ⟨by rfl, fun z hz => by (have k0 := heap_cell hz (j := 0) rfl; have k1 := heap_cell hz (j := 1) rfl; have k2 := heap_cell hz (j := 2) rfl; go_simp)⟩) HS.out ?_
    simp only [Act.put, List.setIfInBounds_toArray, List.set_cons_zero, List.set_cons_succ]
    refine wpAnyH_all (rs := [1]) (by kernel_rfl) (by simp) (fun i hi => ?_)
    obtain rfl : i = 1 := by simpa using hi
    clear hi
    refine wpOp_step rfl (fun K hK => ?_)
    go_simp
    with_reducible refine (newPart_any 1 1 _).mono ?_
    rintro e w17 ⟨rfl, hb⟩
    replace hq := below_then hq hb
    clear hb
    dsimp only
    refine hK _ _ (held_and (heap_lift HC.out hq) (fun hs => ?_))
    clear hK K
    replace HS := Lib.hid hs
    clear hs
    refine wpAnyH_all (rs := [2]) (by kernel_rfl) (by simp) (fun i hi => ?_)
    obtain rfl : i = 2 := by simpa using hi
    clear hi
    refine wpOp_step rfl (fun K hK => ?_)
    go_simp
    with_reducible refine (exFind _).mono ?_
    rintro e w18 ⟨rfl, hb⟩
    replace hq := below_then hq hb
    clear hb
    dsimp only
    refine hK _ _ (held_and (heap_lift HC.out hq) (fun hs => ?_))
    clear hK K
    replace HS := Lib.hid hs
    clear hs
    refine held_take (i := 3) (d := some 73) (v := .tuple #[.int .i64 9, .int .i64 0]) rfl rfl (by kernel_rfl) (by kernel_rfl) (by kernel_rfl) (fun _ _ _ h => h) (Or.inl ⟨by rfl, fun z hz => by (go_simp)⟩) HS.out ?_
    simp only [Act.put, List.setIfInBounds_toArray, List.set_cons_zero, List.set_cons_succ]
    refine held_take (i := 4) (d := some 77) (v := .int .i64 9) rfl rfl (by kernel_rfl) (by kernel_rfl) (by kernel_rfl) (fun _ _ _ h => h) (Or.inl ⟨by rfl, fun z hz => by (go_simp)⟩) HS.out ?_
    simp only [Act.put, List.setIfInBounds_toArray, List.set_cons_zero, List.set_cons_succ]
    refine held_take (i := 5) (d := some 78) (v := .int .i64 0) rfl rfl (by kernel_rfl) (by kernel_rfl) (by kernel_rfl) (fun _ _ _ h => h) (Or.inl ⟨by rfl, fun z hz => by (go_simp)⟩) HS.out ?_
    simp only [Act.put, List.setIfInBounds_toArray, List.set_cons_zero, List.set_cons_succ]
    refine held_take (i := 6) (d := some 11) (v := .int .i64 9) rfl rfl (by kernel_rfl) (by kernel_rfl) (by kernel_rfl) (fun _ _ _ h => h) (Or.inl ⟨by rfl, fun z hz => by (go_simp)⟩) HS.out ?_
    simp only [Act.put, List.setIfInBounds_toArray, List.set_cons_zero, List.set_cons_succ]
    refine held_take (i := 7) (d := some 12) (v := .int .i64 0) rfl rfl (by kernel_rfl) (by kernel_rfl) (by kernel_rfl) (fun _ _ _ h => h) (Or.inl ⟨by rfl, fun z hz => by (go_simp)⟩) HS.out ?_
    simp only [Act.put, List.setIfInBounds_toArray, List.set_cons_zero, List.set_cons_succ]
    refine wpAnyH_done (by kernel_rfl) ?_ _
    replace HC := Lib.hid (heap_lift HC.out hq)
    replace HF := Lib.hid (heap_lift HF.out hq)
    replace HM := Lib.hid (heap_lift HM.out hq)
    replace HR := Lib.hid (heap_lift HR.out hq)
    replace H5 := Lib.hid (H5.out.below hq)
    replace H9 := Lib.hid (H9.out.below hq)
    replace HB := Lib.hid (below_then HB.out hq)
    clear hq HS
    have cHC0 := heap_cell HC.out (j := 0) rfl
    have cHC1 := heap_cell HC.out (j := 1) rfl
    have cHC2 := heap_cell HC.out (j := 2) rfl
    go_wp2_with fail
    clear cHC0 cHC1 cHC2
    refine (exAccepts _).mono ?_
    rintro e w19 ⟨rfl, hb⟩
    have hb2 := hb.alloc hb.size (.cells #[.int .i64 7, .int .i64 15] 31)
    replace HC := Lib.hid (heap_lift HC.out hb2)
    replace HF := Lib.hid (heap_lift HF.out hb2)
    replace HM := Lib.hid (heap_lift HM.out hb2)
    replace HR := Lib.hid (heap_lift HR.out hb2)
    replace H5 := Lib.hid (H5.out.below hb2)
    replace H9 := Lib.hid (H9.out.below hb2)
    replace HB := Lib.hid (below_then HB.out hb2)
    have HA := Lib.hid (heap_top w19 (.cells #[.int .i64 7, .int .i64 15] 31) rfl)
    obtain ⟨w20, hW⟩ : ∃ W, w19.alloc (.cells #[.int .i64 7, .int .i64 15] 31) = W := ⟨_, rfl⟩
    rw [hW] at HC HF HM HR H5 H9 HB HA
    clear hb hb2
    have cHF0 := heap_cell HF.out (j := 0) rfl
    have cHF1 := heap_cell HF.out (j := 1) rfl
    have cHF2 := heap_cell HF.out (j := 2) rfl
    go_wp2_with fail
    clear hW
    clear cHF0 cHF1 cHF2
    refine (exCurve _).mono ?_
    rintro e w21 ⟨a15, cap15, rfl, ht, hb⟩
    replace HC := Lib.hid (heap_lift HC.out hb)
    replace HF := Lib.hid (heap_lift HF.out hb)
    replace HM := Lib.hid (heap_lift HM.out hb)
    replace HR := Lib.hid (heap_lift HR.out hb)
    replace HA := Lib.hid (heap_lift HA.out hb)
    replace H5 := Lib.hid (H5.out.below hb)
    replace H9 := Lib.hid (H9.out.below hb)
    replace HB := Lib.hid (below_then HB.out hb)
    clear hb
    have HV := Lib.hid ht
    clear ht
    go_wp2_with fail
    refine wp_region_held (S := fun z => z.heap[Bc]? = some (.cells #[.int .i64 10, .int .i64 0, .int .i64 10] 28)) (by kernel_rfl) ?_
    obtain ⟨wz, hwz⟩ : ∃ x, w21.drew = x := ⟨_, rfl⟩
    change wpAnyH _ _ _ _ _ _ _ _ (w21.drew)
    rw [hwz]
    have hq : Below w21.heap.size w21 wz := by rw [← hwz]; exact (Below.refl _ _).drew
    have HS : Hid (wz.heap[Bc]? = some (.cells #[.int .i64 10, .int .i64 0, .int .i64 10] 28)) := Lib.hid (heap_lift HC.out hq)
    clear hwz
    skip
    refine held_take (i := 0) (d := some 92) (v := cargoV 10 0 10) rfl rfl (by kernel_rfl) (by kernel_rfl) (by kernel_rfl) (fun _ _ _ h => h) (Or.inl ⟨by rfl, fun z hz => by (have k0 := heap_cell hz (j := 0) rfl; have k1 := heap_cell hz (j := 1) rfl; have k2 := heap_cell hz (j := 2) rfl; go_simp)⟩) HS.out ?_
    simp only [Act.put, List.setIfInBounds_toArray, List.set_cons_zero, List.set_cons_succ]
    refine held_take (i := 1) (d := some 93) (v := .agg #[.int .i64 3, .int .i64 0]) rfl rfl (by kernel_rfl) (by kernel_rfl) (by kernel_rfl) (fun _ _ _ h => h) (Or.inl ⟨by rfl, fun z hz => by (go_simp)⟩) HS.out ?_
    simp only [Act.put, List.setIfInBounds_toArray, List.set_cons_zero, List.set_cons_succ]
    refine wpAnyH_all (rs := [2]) (by kernel_rfl) (by simp) (fun i hi => ?_)
    obtain rfl : i = 2 := by simpa using hi
    clear hi
    refine wpOp_step rfl (fun K hK => ?_)
    go_simp
    with_reducible refine (newPart_any 3 10 _).mono ?_
    rintro e w22 ⟨rfl, hb⟩
    replace hq := below_then hq hb
    clear hb
    dsimp only
    refine hK _ _ (held_and (heap_lift HC.out hq) (fun hs => ?_))
    clear hK K
    replace HS := Lib.hid hs
    clear hs
    refine wpAnyH_all (rs := [3]) (by kernel_rfl) (by simp) (fun i hi => ?_)
    obtain rfl : i = 3 := by simpa using hi
    clear hi
    refine wpOp_step rfl (fun K hK => ?_)
    go_simp
    with_reducible refine (newPart_any 1 10 _).mono ?_
    rintro e w23 ⟨rfl, hb⟩
    replace hq := below_then hq hb
    clear hb
    dsimp only
    refine hK _ _ (held_and (heap_lift HC.out hq) (fun hs => ?_))
    clear hK K
    replace HS := Lib.hid hs
    clear hs
    refine wpAnyH_all (rs := [4]) (by kernel_rfl) (by simp) (fun i hi => ?_)
    obtain rfl : i = 4 := by simpa using hi
    clear hi
    refine wpOp_step rfl (fun K hK => ?_)
    go_simp
    with_reducible refine (exGood _).mono ?_
    rintro e w24 ⟨rfl, hb⟩
    replace hq := below_then hq hb
    clear hb
    dsimp only
    refine hK _ _ (held_and (heap_lift HC.out hq) (fun hs => ?_))
    clear hK K
    replace HS := Lib.hid hs
    clear hs
    refine held_take (i := 5) (d := some 91) (v := .tuple #[.bool true, .int .i64 0]) rfl rfl (by kernel_rfl) (by kernel_rfl) (by kernel_rfl) (fun _ _ _ h => h) (Or.inl ⟨by rfl, fun z hz => by (go_simp)⟩) HS.out ?_
    simp only [Act.put, List.setIfInBounds_toArray, List.set_cons_zero, List.set_cons_succ]
    refine held_take (i := 6) (d := some 97) (v := .bool true) rfl rfl (by kernel_rfl) (by kernel_rfl) (by kernel_rfl) (fun _ _ _ h => h) (Or.inl ⟨by rfl, fun z hz => by (go_simp)⟩) HS.out ?_
    simp only [Act.put, List.setIfInBounds_toArray, List.set_cons_zero, List.set_cons_succ]
    refine held_take (i := 7) (d := some 98) (v := .int .i64 0) rfl rfl (by kernel_rfl) (by kernel_rfl) (by kernel_rfl) (fun _ _ _ h => h) (Or.inl ⟨by rfl, fun z hz => by (go_simp)⟩) HS.out ?_
    simp only [Act.put, List.setIfInBounds_toArray, List.set_cons_zero, List.set_cons_succ]
    refine held_take (i := 8) (d := some 17) (v := .bool true) rfl rfl (by kernel_rfl) (by kernel_rfl) (by kernel_rfl) (fun _ _ _ h => h) (Or.inl ⟨by rfl, fun z hz => by (go_simp)⟩) HS.out ?_
    simp only [Act.put, List.setIfInBounds_toArray, List.set_cons_zero, List.set_cons_succ]
    refine held_take (i := 9) (d := some 18) (v := .int .i64 0) rfl rfl (by kernel_rfl) (by kernel_rfl) (by kernel_rfl) (fun _ _ _ h => h) (Or.inl ⟨by rfl, fun z hz => by (go_simp)⟩) HS.out ?_
    simp only [Act.put, List.setIfInBounds_toArray, List.set_cons_zero, List.set_cons_succ]
    refine wpAnyH_done (by kernel_rfl) ?_ _
    replace HC := Lib.hid (heap_lift HC.out hq)
    replace HF := Lib.hid (heap_lift HF.out hq)
    replace HM := Lib.hid (heap_lift HM.out hq)
    replace HR := Lib.hid (heap_lift HR.out hq)
    replace HA := Lib.hid (heap_lift HA.out hq)
    replace H5 := Lib.hid (H5.out.below hq)
    replace H9 := Lib.hid (H9.out.below hq)
    replace HV := Lib.hid (HV.out.below hq)
    replace HB := Lib.hid (below_then HB.out hq)
    clear hq HS
    go_wp2_with fail
    go_cut [19, 20] from 99 to 105 (fun s t wx => BoxAt wx s #[.int .i64 2500, .int .i64 3] 31 w24.heap.size ∧ t = .int .i64 0 ∧ Below w24.heap.size w24 wx)
    case first =>
      as_aux_lemma =>
        refine wp_region_held (S := fun z => z.heap[Bc]? = some (.cells #[.int .i64 10, .int .i64 0, .int .i64 10] 28)) (by kernel_rfl) ?_
        obtain ⟨wz, hwz⟩ : ∃ x, w24.drew = x := ⟨_, rfl⟩
        change wpAnyH _ _ _ _ _ _ _ _ (w24.drew)
        rw [hwz]
        have hq : Below w24.heap.size w24 wz := by rw [← hwz]; exact (Below.refl _ _).drew
        have HS : Hid (wz.heap[Bc]? = some (.cells #[.int .i64 10, .int .i64 0, .int .i64 10] 28)) := Lib.hid (heap_lift HC.out hq)
        clear hwz
        skip
        refine held_take (i := 0) (d := some 100) (v := cargoV 10 0 10) rfl rfl (by kernel_rfl) (by kernel_rfl) (by kernel_rfl) (fun _ _ _ h => h) (Or.inl ⟨by rfl, fun z hz => by (have k0 := heap_cell hz (j := 0) rfl; have k1 := heap_cell hz (j := 1) rfl; have k2 := heap_cell hz (j := 2) rfl; go_simp)⟩) HS.out ?_
        simp only [Act.put, List.setIfInBounds_toArray, List.set_cons_zero, List.set_cons_succ]
        refine wpAnyH_all (rs := [1, 6]) (by kernel_rfl) (by simp) (fun i hi => ?_)
        rcases (by simpa using hi : i = 1 ∨ i = 6) with rfl | rfl
        · clear hi
          refine wpOp_step rfl (fun K hK => ?_)
          go_simp
          with_reducible refine (terms_any _).mono ?_
          rintro e w25 ⟨a3, cap3, rfl, ht, hb⟩
          replace hq := below_then hq hb
          have HT := Lib.hid ht
          clear ht
          clear hb
          dsimp only
          refine hK _ _ (held_and (heap_lift HC.out hq) (fun hs => ?_))
          clear hK K
          replace HS := Lib.hid hs
          clear hs
          refine wpAnyH_all (rs := [2, 6]) (by kernel_rfl) (by simp) (fun i hi => ?_)
          rcases (by simpa using hi : i = 2 ∨ i = 6) with rfl | rfl
          · clear hi
            refine wpOp_step rfl (fun K hK => ?_)
            go_simp
            with_reducible refine (exFair a3 cap3 _ HT.out).mono ?_
            rintro e w26 ⟨rfl, hb⟩
            replace hq := below_then hq hb
            replace HT := Lib.hid (HT.out.below hb)
            clear hb
            dsimp only
            refine hK _ _ (held_and (heap_lift HC.out hq) (fun hs => ?_))
            clear hK K
            replace HS := Lib.hid hs
            clear hs
            refine held_take (i := 3) (d := some 99) (v := .tuple #[.agg #[.int .i64 2500, .int .i64 3], .int .i64 0]) rfl rfl (by kernel_rfl) (by kernel_rfl) (by kernel_rfl) (fun _ _ _ h => h) (Or.inl ⟨by rfl, fun z hz => by (go_simp)⟩) HS.out ?_
            simp only [Act.put, List.setIfInBounds_toArray, List.set_cons_zero, List.set_cons_succ]
            refine held_take (i := 4) (d := some 103) (v := .agg #[.int .i64 2500, .int .i64 3]) rfl rfl (by kernel_rfl) (by kernel_rfl) (by kernel_rfl) (fun _ _ _ h => h) (Or.inl ⟨by rfl, fun z hz => by (go_simp)⟩) HS.out ?_
            simp only [Act.put, List.setIfInBounds_toArray, List.set_cons_zero, List.set_cons_succ]
            refine held_take (i := 5) (d := some 104) (v := .int .i64 0) rfl rfl (by kernel_rfl) (by kernel_rfl) (by kernel_rfl) (fun _ _ _ h => h) (Or.inl ⟨by rfl, fun z hz => by (go_simp)⟩) HS.out ?_
            simp only [Act.put, List.setIfInBounds_toArray, List.set_cons_zero, List.set_cons_succ]
            refine wpAnyH_all (rs := [6]) (by kernel_rfl) (by simp) (fun i hi => ?_)
            obtain rfl : i = 6 := by simpa using hi
            clear hi
            refine wpOp_step rfl (fun K hK => ?_)
            go_simp
            obtain ⟨w27, hua⟩ : ∃ x, w26.alloc (.cells #[.int .i64 0, .int .i64 0] 31) = x := ⟨_, rfl⟩
            have hb : Below w26.heap.size w26 w27 := by rw [← hua]; exact (Below.refl _ _).alloc (Nat.le_refl _) _
            have hz : w27.heap[w26.heap.size]? = some (.cells #[.int .i64 0, .int .i64 0] 31) := by rw [← hua]; exact heap_top _ _ rfl
            have hge : w24.heap.size ≤ w26.heap.size := hq.size
            rw [hua]
            clear hua
            replace hq := below_then hq hb
            replace HT := Lib.hid (HT.out.below hb)
            clear hb
            refine hK _ _ (held_and (heap_lift HC.out hq) (fun hs => ?_))
            clear hK K
            replace HS := Lib.hid hs
            clear hs
            have r0 := heap_cell hz (j := 0) rfl
            have f0 := heap_frozen hz 0
            have r1 := heap_cell hz (j := 1) rfl
            have f1 := heap_frozen hz 1
            refine wpAnyH_all (rs := [7]) (by kernel_rfl) (by simp) (fun i hi => ?_)
            obtain rfl : i = 7 := by simpa using hi
            clear hi
            refine wpOp_step rfl (fun K hK => ?_)
            go_simp
            refine hK _ _ (held_and ((Below.heap_setCell _ _ _ _ (by have := (Array.getElem?_eq_some_iff.1 HC.out).1; simp; omega)).trans ((Below.heap_setCell _ _ _ _ (by have := (Array.getElem?_eq_some_iff.1 HC.out).1; simp; omega)).trans (HS.out))) (fun hs => ?_))
            clear hK K
            replace HS := Lib.hid hs
            clear hs r0 f0 r1 f1
            refine held_take (i := 8) (d := some 20) (v := .int .i64 0) rfl rfl (by kernel_rfl) (by kernel_rfl) (by kernel_rfl) (fun _ _ _ h => h) (Or.inl ⟨by rfl, fun z hz => by (go_simp)⟩) HS.out ?_
            simp only [Act.put, List.setIfInBounds_toArray, List.set_cons_zero, List.set_cons_succ]
            refine wpAnyH_done (by kernel_rfl) ?_ _
            go_wp2_with fail
            go_meet
            exact ⟨⟨_, rfl, hge, heap_set (heap_set (hz) 0 _) 1 _⟩, rfl, ((hq.setCell (p := ⟨w26.heap.size, 0, none⟩) hge _).setCell (p := ⟨w26.heap.size, 1, none⟩) hge _)⟩
          · clear hi
            refine wpOp_step rfl (fun K hK => ?_)
            go_simp
            obtain ⟨w28, hua⟩ : ∃ x, w25.alloc (.cells #[.int .i64 0, .int .i64 0] 31) = x := ⟨_, rfl⟩
            have hb : Below w25.heap.size w25 w28 := by rw [← hua]; exact (Below.refl _ _).alloc (Nat.le_refl _) _
            have hz : w28.heap[w25.heap.size]? = some (.cells #[.int .i64 0, .int .i64 0] 31) := by rw [← hua]; exact heap_top _ _ rfl
            have hge : w24.heap.size ≤ w25.heap.size := hq.size
            rw [hua]
            clear hua
            replace hq := below_then hq hb
            replace HT := Lib.hid (HT.out.below hb)
            clear hb
            refine hK _ _ (held_and (heap_lift HC.out hq) (fun hs => ?_))
            clear hK K
            replace HS := Lib.hid hs
            clear hs
            refine wpAnyH_all (rs := [2]) (by kernel_rfl) (by simp) (fun i hi => ?_)
            obtain rfl : i = 2 := by simpa using hi
            clear hi
            refine wpOp_step rfl (fun K hK => ?_)
            go_simp
            with_reducible refine (exFair a3 cap3 _ HT.out).mono ?_
            rintro e w29 ⟨rfl, hb⟩
            replace hq := below_then hq hb
            replace HT := Lib.hid (HT.out.below hb)
            replace hz := heap_lift hz hb
            clear hb
            dsimp only
            refine hK _ _ (held_and (heap_lift HC.out hq) (fun hs => ?_))
            clear hK K
            replace HS := Lib.hid hs
            clear hs
            refine held_take (i := 3) (d := some 99) (v := .tuple #[.agg #[.int .i64 2500, .int .i64 3], .int .i64 0]) rfl rfl (by kernel_rfl) (by kernel_rfl) (by kernel_rfl) (fun _ _ _ h => h) (Or.inl ⟨by rfl, fun z hz => by (go_simp)⟩) HS.out ?_
            simp only [Act.put, List.setIfInBounds_toArray, List.set_cons_zero, List.set_cons_succ]
            refine held_take (i := 4) (d := some 103) (v := .agg #[.int .i64 2500, .int .i64 3]) rfl rfl (by kernel_rfl) (by kernel_rfl) (by kernel_rfl) (fun _ _ _ h => h) (Or.inl ⟨by rfl, fun z hz => by (go_simp)⟩) HS.out ?_
            simp only [Act.put, List.setIfInBounds_toArray, List.set_cons_zero, List.set_cons_succ]
            refine held_take (i := 5) (d := some 104) (v := .int .i64 0) rfl rfl (by kernel_rfl) (by kernel_rfl) (by kernel_rfl) (fun _ _ _ h => h) (Or.inl ⟨by rfl, fun z hz => by (go_simp)⟩) HS.out ?_
            simp only [Act.put, List.setIfInBounds_toArray, List.set_cons_zero, List.set_cons_succ]
            have r0 := heap_cell hz (j := 0) rfl
            have f0 := heap_frozen hz 0
            have r1 := heap_cell hz (j := 1) rfl
            have f1 := heap_frozen hz 1
            refine wpAnyH_all (rs := [7]) (by kernel_rfl) (by simp) (fun i hi => ?_)
            obtain rfl : i = 7 := by simpa using hi
            clear hi
            refine wpOp_step rfl (fun K hK => ?_)
            go_simp
            refine hK _ _ (held_and ((Below.heap_setCell _ _ _ _ (by have := (Array.getElem?_eq_some_iff.1 HC.out).1; simp; omega)).trans ((Below.heap_setCell _ _ _ _ (by have := (Array.getElem?_eq_some_iff.1 HC.out).1; simp; omega)).trans (HS.out))) (fun hs => ?_))
            clear hK K
            replace HS := Lib.hid hs
            clear hs r0 f0 r1 f1
            refine held_take (i := 8) (d := some 20) (v := .int .i64 0) rfl rfl (by kernel_rfl) (by kernel_rfl) (by kernel_rfl) (fun _ _ _ h => h) (Or.inl ⟨by rfl, fun z hz => by (go_simp)⟩) HS.out ?_
            simp only [Act.put, List.setIfInBounds_toArray, List.set_cons_zero, List.set_cons_succ]
            refine wpAnyH_done (by kernel_rfl) ?_ _
            go_wp2_with fail
            go_meet
            exact ⟨⟨_, rfl, hge, heap_set (heap_set (hz) 0 _) 1 _⟩, rfl, ((hq.setCell (p := ⟨w25.heap.size, 0, none⟩) hge _).setCell (p := ⟨w25.heap.size, 1, none⟩) hge _)⟩
        · clear hi
          refine wpOp_step rfl (fun K hK => ?_)
          go_simp
          obtain ⟨w30, hua⟩ : ∃ x, wz.alloc (.cells #[.int .i64 0, .int .i64 0] 31) = x := ⟨_, rfl⟩
          have hb : Below wz.heap.size wz w30 := by rw [← hua]; exact (Below.refl _ _).alloc (Nat.le_refl _) _
          have hz : w30.heap[wz.heap.size]? = some (.cells #[.int .i64 0, .int .i64 0] 31) := by rw [← hua]; exact heap_top _ _ rfl
          have hge : w24.heap.size ≤ wz.heap.size := hq.size
          rw [hua]
          clear hua
          replace hq := below_then hq hb
          clear hb
          refine hK _ _ (held_and (heap_lift HC.out hq) (fun hs => ?_))
          clear hK K
          replace HS := Lib.hid hs
          clear hs
          refine wpAnyH_all (rs := [1]) (by kernel_rfl) (by simp) (fun i hi => ?_)
          obtain rfl : i = 1 := by simpa using hi
          clear hi
          refine wpOp_step rfl (fun K hK => ?_)
          go_simp
          with_reducible refine (terms_any _).mono ?_
          rintro e w31 ⟨a3, cap3, rfl, ht, hb⟩
          replace hq := below_then hq hb
          replace hz := heap_lift hz hb
          have HT := Lib.hid ht
          clear ht
          clear hb
          dsimp only
          refine hK _ _ (held_and (heap_lift HC.out hq) (fun hs => ?_))
          clear hK K
          replace HS := Lib.hid hs
          clear hs
          refine wpAnyH_all (rs := [2]) (by kernel_rfl) (by simp) (fun i hi => ?_)
          obtain rfl : i = 2 := by simpa using hi
          clear hi
          refine wpOp_step rfl (fun K hK => ?_)
          go_simp
          with_reducible refine (exFair a3 cap3 _ HT.out).mono ?_
          rintro e w32 ⟨rfl, hb⟩
          replace hq := below_then hq hb
          replace HT := Lib.hid (HT.out.below hb)
          replace hz := heap_lift hz hb
          clear hb
          dsimp only
          refine hK _ _ (held_and (heap_lift HC.out hq) (fun hs => ?_))
          clear hK K
          replace HS := Lib.hid hs
          clear hs
          refine held_take (i := 3) (d := some 99) (v := .tuple #[.agg #[.int .i64 2500, .int .i64 3], .int .i64 0]) rfl rfl (by kernel_rfl) (by kernel_rfl) (by kernel_rfl) (fun _ _ _ h => h) (Or.inl ⟨by rfl, fun z hz => by (go_simp)⟩) HS.out ?_
          simp only [Act.put, List.setIfInBounds_toArray, List.set_cons_zero, List.set_cons_succ]
          refine held_take (i := 4) (d := some 103) (v := .agg #[.int .i64 2500, .int .i64 3]) rfl rfl (by kernel_rfl) (by kernel_rfl) (by kernel_rfl) (fun _ _ _ h => h) (Or.inl ⟨by rfl, fun z hz => by (go_simp)⟩) HS.out ?_
          simp only [Act.put, List.setIfInBounds_toArray, List.set_cons_zero, List.set_cons_succ]
          refine held_take (i := 5) (d := some 104) (v := .int .i64 0) rfl rfl (by kernel_rfl) (by kernel_rfl) (by kernel_rfl) (fun _ _ _ h => h) (Or.inl ⟨by rfl, fun z hz => by (go_simp)⟩) HS.out ?_
          simp only [Act.put, List.setIfInBounds_toArray, List.set_cons_zero, List.set_cons_succ]
          have r0 := heap_cell hz (j := 0) rfl
          have f0 := heap_frozen hz 0
          have r1 := heap_cell hz (j := 1) rfl
          have f1 := heap_frozen hz 1
          refine wpAnyH_all (rs := [7]) (by kernel_rfl) (by simp) (fun i hi => ?_)
          obtain rfl : i = 7 := by simpa using hi
          clear hi
          refine wpOp_step rfl (fun K hK => ?_)
          go_simp
          refine hK _ _ (held_and ((Below.heap_setCell _ _ _ _ (by have := (Array.getElem?_eq_some_iff.1 HC.out).1; simp; omega)).trans ((Below.heap_setCell _ _ _ _ (by have := (Array.getElem?_eq_some_iff.1 HC.out).1; simp; omega)).trans (HS.out))) (fun hs => ?_))
          clear hK K
          replace HS := Lib.hid hs
          clear hs r0 f0 r1 f1
          refine held_take (i := 8) (d := some 20) (v := .int .i64 0) rfl rfl (by kernel_rfl) (by kernel_rfl) (by kernel_rfl) (fun _ _ _ h => h) (Or.inl ⟨by rfl, fun z hz => by (go_simp)⟩) HS.out ?_
          simp only [Act.put, List.setIfInBounds_toArray, List.set_cons_zero, List.set_cons_succ]
          refine wpAnyH_done (by kernel_rfl) ?_ _
          go_wp2_with fail
          go_meet
          exact ⟨⟨_, rfl, hge, heap_set (heap_set (hz) 0 _) 1 _⟩, rfl, ((hq.setCell (p := ⟨wz.heap.size, 0, none⟩) hge _).setCell (p := ⟨wz.heap.size, 1, none⟩) hge _)⟩
    case rest =>
      obtain ⟨w33, rfl⟩ : ∃ x, x = wc := ⟨_, rfl⟩
      obtain ⟨⟨BHQ, rfl, _, hh⟩, rfl, hb⟩ := hcut
      replace HC := Lib.hid (heap_lift HC.out hb)
      replace HF := Lib.hid (heap_lift HF.out hb)
      replace HM := Lib.hid (heap_lift HM.out hb)
      replace HR := Lib.hid (heap_lift HR.out hb)
      replace HA := Lib.hid (heap_lift HA.out hb)
      replace H5 := Lib.hid (H5.out.below hb)
      replace H9 := Lib.hid (H9.out.below hb)
      replace HV := Lib.hid (HV.out.below hb)
      replace HB := Lib.hid (below_then HB.out hb)
      have HQ := Lib.hid hh
      clear hb hh
      go_wp2_with fail
      refine (exAward1 _).mono ?_
      rintro e w34 ⟨rfl, hb⟩
      replace HC := Lib.hid (heap_lift HC.out hb)
      replace HF := Lib.hid (heap_lift HF.out hb)
      replace HM := Lib.hid (heap_lift HM.out hb)
      replace HR := Lib.hid (heap_lift HR.out hb)
      replace HA := Lib.hid (heap_lift HA.out hb)
      replace HQ := Lib.hid (heap_lift HQ.out hb)
      replace H5 := Lib.hid (H5.out.below hb)
      replace H9 := Lib.hid (H9.out.below hb)
      replace HV := Lib.hid (HV.out.below hb)
      replace HB := Lib.hid (below_then HB.out hb)
      clear hb
      go_wp2_with fail
      refine (exAward2 _).mono ?_
      rintro e w35 ⟨rfl, hb⟩
      replace HC := Lib.hid (heap_lift HC.out hb)
      replace HF := Lib.hid (heap_lift HF.out hb)
      replace HM := Lib.hid (heap_lift HM.out hb)
      replace HR := Lib.hid (heap_lift HR.out hb)
      replace HA := Lib.hid (heap_lift HA.out hb)
      replace HQ := Lib.hid (heap_lift HQ.out hb)
      replace H5 := Lib.hid (H5.out.below hb)
      replace H9 := Lib.hid (H9.out.below hb)
      replace HV := Lib.hid (HV.out.below hb)
      replace HB := Lib.hid (below_then HB.out hb)
      clear hb
      go_wp2_with fail
      go_cut [212] from 113 to 213 (fun s wx => s = .bool false ∧ Below w35.heap.size w35 wx)
      case first =>
        rename_i J K' hJ hK'
        generalize hA : (Act.mk _ _ : Act) = a0
        have m3 : At a0 3 (.pointer (some ⟨w1.heap.size, 0, none⟩)) := by rw [← hA]; rfl
        have m4 : At a0 4 (.int .i64 0) := by rw [← hA]; rfl
        have m5 : At a0 5 (.pointer (some ⟨BHR, 0, none⟩)) := by rw [← hA]; rfl
        have m6 : At a0 6 (.int .i64 0) := by rw [← hA]; rfl
        have m7 : At a0 7 (v5) := by rw [← hA]; rfl
        have m8 : At a0 8 (.int .i64 0) := by rw [← hA]; rfl
        have m9 : At a0 9 (v9) := by rw [← hA]; rfl
        have m10 : At a0 10 (.int .i64 0) := by rw [← hA]; rfl
        have m11 : At a0 11 (.int .i64 9) := by rw [← hA]; rfl
        have m12 : At a0 12 (.int .i64 0) := by rw [← hA]; rfl
        have m13 : At a0 13 (.pointer (some ⟨w19.heap.size, 0, none⟩)) := by rw [← hA]; rfl
        have m14 : At a0 14 (.int .i64 0) := by rw [← hA]; rfl
        have m15 : At a0 15 (.slice a15 4 cap15) := by rw [← hA]; rfl
        have m16 : At a0 16 (.int .i64 0) := by rw [← hA]; rfl
        have m17 : At a0 17 (.bool true) := by rw [← hA]; rfl
        have m18 : At a0 18 (.int .i64 0) := by rw [← hA]; rfl
        have m19 : At a0 19 (.pointer (some ⟨BHQ, 0, none⟩)) := by rw [← hA]; rfl
        have m20 : At a0 20 (.int .i64 0) := by rw [← hA]; rfl
        have m21 : At a0 21 (.int .i64 105) := by rw [← hA]; rfl
        have m22 : At a0 22 (.int .i64 0) := by rw [← hA]; rfl
        have m23 : At a0 23 (.int .i64 115) := by rw [← hA]; rfl
        have m24 : At a0 24 (.int .i64 0) := by rw [← hA]; rfl
        have hsz : 213 < a0.tmps.size := by rw [← hA]; exact of_decide_eq_true (by kernel_rfl)
        have hfin : ∀ a' w', Kept (List.range' 113 101) a0 a' → At a' 212 (.bool false) → Below w35.heap.size w35 w' → K' a' w' := by
          intro a' w' hI hL hb
          refine hK' _ _ (Met.intro (hJ _ _ ⟨a'.tmps.getD 113 undef, a'.tmps.getD 114 undef, a'.tmps.getD 115 undef, a'.tmps.getD 116 undef, a'.tmps.getD 117 undef, a'.tmps.getD 118 undef, a'.tmps.getD 119 undef, a'.tmps.getD 120 undef, a'.tmps.getD 121 undef, a'.tmps.getD 122 undef, a'.tmps.getD 123 undef, a'.tmps.getD 124 undef, a'.tmps.getD 125 undef, a'.tmps.getD 126 undef, a'.tmps.getD 127 undef, a'.tmps.getD 128 undef, a'.tmps.getD 129 undef, a'.tmps.getD 130 undef, a'.tmps.getD 131 undef, a'.tmps.getD 132 undef, a'.tmps.getD 133 undef, a'.tmps.getD 134 undef, a'.tmps.getD 135 undef, a'.tmps.getD 136 undef, a'.tmps.getD 137 undef, a'.tmps.getD 138 undef, a'.tmps.getD 139 undef, a'.tmps.getD 140 undef, a'.tmps.getD 141 undef, a'.tmps.getD 142 undef, a'.tmps.getD 143 undef, a'.tmps.getD 144 undef, a'.tmps.getD 145 undef, a'.tmps.getD 146 undef, a'.tmps.getD 147 undef, a'.tmps.getD 148 undef, a'.tmps.getD 149 undef, a'.tmps.getD 150 undef, a'.tmps.getD 151 undef, a'.tmps.getD 152 undef, a'.tmps.getD 153 undef, a'.tmps.getD 154 undef, a'.tmps.getD 155 undef, a'.tmps.getD 156 undef, a'.tmps.getD 157 undef, a'.tmps.getD 158 undef, a'.tmps.getD 159 undef, a'.tmps.getD 160 undef, a'.tmps.getD 161 undef, a'.tmps.getD 162 undef, a'.tmps.getD 163 undef, a'.tmps.getD 164 undef, a'.tmps.getD 165 undef, a'.tmps.getD 166 undef, a'.tmps.getD 167 undef, a'.tmps.getD 168 undef, a'.tmps.getD 169 undef, a'.tmps.getD 170 undef, a'.tmps.getD 171 undef, a'.tmps.getD 172 undef, a'.tmps.getD 173 undef, a'.tmps.getD 174 undef, a'.tmps.getD 175 undef, a'.tmps.getD 176 undef, a'.tmps.getD 177 undef, a'.tmps.getD 178 undef, a'.tmps.getD 179 undef, a'.tmps.getD 180 undef, a'.tmps.getD 181 undef, a'.tmps.getD 182 undef, a'.tmps.getD 183 undef, a'.tmps.getD 184 undef, a'.tmps.getD 185 undef, a'.tmps.getD 186 undef, a'.tmps.getD 187 undef, a'.tmps.getD 188 undef, a'.tmps.getD 189 undef, a'.tmps.getD 190 undef, a'.tmps.getD 191 undef, a'.tmps.getD 192 undef, a'.tmps.getD 193 undef, a'.tmps.getD 194 undef, a'.tmps.getD 195 undef, a'.tmps.getD 196 undef, a'.tmps.getD 197 undef, a'.tmps.getD 198 undef, a'.tmps.getD 199 undef, a'.tmps.getD 200 undef, a'.tmps.getD 201 undef, a'.tmps.getD 202 undef, a'.tmps.getD 203 undef, a'.tmps.getD 204 undef, a'.tmps.getD 205 undef, a'.tmps.getD 206 undef, a'.tmps.getD 207 undef, a'.tmps.getD 208 undef, a'.tmps.getD 209 undef, a'.tmps.getD 210 undef, a'.tmps.getD 211 undef, a'.tmps.getD 212 undef, a'.tmps.getD 213 undef, ⟨?_, hb⟩, hI.eq.trans ?_⟩))
          · exact (show a'.tmps.getD 212 undef = _ from hL.eval)
          · rw [← hA]
            kernel_rfl
        have hI : Kept (List.range' 113 101) a0 a0 := Kept.refl _ _
        clear hA hJ hK' J
        refine with_pan (fun d _ _ _ _ h => by cases d <;> exact h) ?_
        intro hpan
        as_aux_lemma =>
          refine wp_region_heldT (fun z => z.heap[w1.heap.size]? = some (.cells #[.int .i64 6, .int .i64 5] 31) ∧ z.heap[BHR]? = some (.cells #[.int .i64 7, .int .i64 0, .int .i64 7] 28) ∧ z.heap[w19.heap.size]? = some (.cells #[.int .i64 7, .int .i64 15] 31) ∧ z.heap[BHQ]? = some (.cells #[.int .i64 2500, .int .i64 3] 31)) [true, true, true, true, false, true, true, true, true, true, true, true, true, false, true, true, true, true, true, true, true, true, false, false, true, true, true, true, true, true, true, true, false, false, true, true, true, true, true, true, true, true, true, true, true, true, true, true, true, true, false, true, true, true, true, true, true, true, true, false, false, false, false, false, false, true, true, true, true, true, true, true, true, true, true, true, true, true, true, true, true, false, true, true, true, true, true, true, true, true, true, true, true, true, true, true, true, true, true, true] (by kernel_rfl) (by kernel_rfl) (by kernel_rfl) (by kernel_rfl) hpan ⟨HM.out, HR.out, HA.out, HQ.out⟩ ?_
          obtain ⟨wz, hwz⟩ : ∃ x, w35.drew = x := ⟨_, rfl⟩
          change heldW _ _ _ _ _ _ _ (w35.drew)
          rw [hwz]
          have hq : Below w35.heap.size w35 wz := by rw [← hwz]; exact (Below.refl _ _).drew
          clear hwz
          refine heldA_take (k := 0) (d := 113) (v := .int .i64 0) hI rfl rfl (by kernel_rfl) (Nat.lt_of_le_of_lt (by decide) hsz) (wanted_free rfl) (fun z hz => by have n4 := hI.at m4 (by kernel_rfl); have e4 := n4; have f4 := n4.eval; unfold At at e4; simp [go_sem, e4]) (fun a' hI' n113' hk => ?_)
          have n113 := n113'
          replace hI := hI'
          clear hk hI' n113'
          obtain ⟨aa, rfl⟩ : ∃ x, x = a' := ⟨_, rfl⟩
          refine heldA_take (k := 1) (d := 114) (v := .bool false) hI rfl rfl (by kernel_rfl) (Nat.lt_of_le_of_lt (by decide) hsz) (wanted_free rfl) (fun z hz => by have e113 := n113; have f113 := n113.eval; unfold At at e113; simp [go_sem, e113]) (fun a' hI' n114' hk => ?_)
          clear n113
          have n114 := n114'
          replace hI := hI'
          clear hk hI' n114'
          obtain ⟨aa, rfl⟩ : ∃ x, x = a' := ⟨_, rfl⟩
          refine heldA_take (k := 2) (d := 115) (v := .bool false) hI rfl rfl (by kernel_rfl) (Nat.lt_of_le_of_lt (by decide) hsz) (wanted_free rfl) (fun z hz => by have e114 := n114; have f114 := n114.eval; unfold At at e114; simp [go_sem, e114]) (fun a' hI' n115' hk => ?_)
          clear n114
          have n115 := n115'
          replace hI := hI'
          clear hk hI' n115'
          obtain ⟨aa, rfl⟩ : ∃ x, x = a' := ⟨_, rfl⟩
          refine heldA_take (k := 3) (d := 116) (v := .agg #[.int .i64 6, .int .i64 5]) hI rfl rfl (by kernel_rfl) (Nat.lt_of_le_of_lt (by decide) hsz) (wanted_at (d := 115) rfl (by kernel_rfl) n115) (fun z hz => by have n3 := hI.at m3 (by kernel_rfl); have e3 := n3; have f3 := n3.eval; unfold At at e3; have hz : z.heap[w1.heap.size]? = some (.cells #[.int .i64 6, .int .i64 5] 31) ∧ z.heap[BHR]? = some (.cells #[.int .i64 7, .int .i64 0, .int .i64 7] 28) ∧ z.heap[w19.heap.size]? = some (.cells #[.int .i64 7, .int .i64 15] 31) ∧ z.heap[BHQ]? = some (.cells #[.int .i64 2500, .int .i64 3] 31) := hz; have k0 := heap_cell hz.1 (j := 0) rfl; have k1 := heap_cell hz.1 (j := 1) rfl; simp [go_sem, e3, k0, k1]) (fun a' hI' n116' hk => ?_)
          replace n115 := hk _ _ n115 rfl
          have n116 := n116'
          replace hI := hI'
          clear hk hI' n116'
          obtain ⟨aa, rfl⟩ : ∃ x, x = a' := ⟨_, rfl⟩
          refine heldA_call (k := 4) (d := 117) (v := .agg #[.int .i64 6, .int .i64 5]) hI rfl rfl (by kernel_rfl) (Nat.lt_of_le_of_lt (by decide) hsz) (wanted_at (d := 115) rfl (by kernel_rfl) n115) (newPart_any 6 5 _) (by simp [go_sem]) (fun w' hb => ⟨heap_lift HM.out (below_then hq hb), heap_lift HR.out (below_then hq hb), heap_lift HA.out (below_then hq hb), heap_lift HQ.out (below_then hq hb)⟩) (fun w36 a' hb hI' n117' hk => ?_)
          replace hq := below_then hq hb
          clear hb
          replace n115 := hk _ _ n115 rfl
          replace n116 := hk _ _ n116 rfl
          have n117 := n117'
          replace hI := hI'
          clear hk hI' n117'
          obtain ⟨aa, rfl⟩ : ∃ x, x = a' := ⟨_, rfl⟩
          refine heldA_take (k := 5) (d := 118) (v := .bool false) hI rfl rfl (by kernel_rfl) (Nat.lt_of_le_of_lt (by decide) hsz) (wanted_at (d := 115) rfl (by kernel_rfl) n115) (fun z hz => by have e116 := n116; have f116 := n116.eval; unfold At at e116; have e117 := n117; have f117 := n117.eval; unfold At at e117; simp [go_sem, e116, e117]) (fun a' hI' n118' hk => ?_)
          replace n115 := hk _ _ n115 rfl
          clear n116
          clear n117
          have n118 := n118'
          replace hI := hI'
          clear hk hI' n118'
          obtain ⟨aa, rfl⟩ : ∃ x, x = a' := ⟨_, rfl⟩
          refine heldA_take (k := 6) (d := 119) (v := .bool false) hI rfl rfl (by kernel_rfl) (Nat.lt_of_le_of_lt (by decide) hsz) (wanted_free rfl) (fun z hz => by have e115 := n115; have f115 := n115.eval; unfold At at e115; have e118 := n118; have f118 := n118.eval; unfold At at e118; simp [go_sem, e115, e118]) (fun a' hI' n119' hk => ?_)
          clear n115
          clear n118
          have n119 := n119'
          replace hI := hI'
          clear hk hI' n119'
          obtain ⟨aa, rfl⟩ : ∃ x, x = a' := ⟨_, rfl⟩
          refine heldA_take (k := 7) (d := 120) (v := .bool false) hI rfl rfl (by kernel_rfl) (Nat.lt_of_le_of_lt (by decide) hsz) (wanted_free rfl) (fun z hz => by have e119 := n119; have f119 := n119.eval; unfold At at e119; simp [go_sem, e119]) (fun a' hI' n120' hk => ?_)
          clear n119
          have n120 := n120'
          replace hI := hI'
          clear hk hI' n120'
          obtain ⟨aa, rfl⟩ : ∃ x, x = a' := ⟨_, rfl⟩
          refine heldA_take (k := 8) (d := 121) (v := .int .i64 0) hI rfl rfl (by kernel_rfl) (Nat.lt_of_le_of_lt (by decide) hsz) (wanted_at (d := 120) rfl (by kernel_rfl) n120) (fun z hz => by have n6 := hI.at m6 (by kernel_rfl); have e6 := n6; have f6 := n6.eval; unfold At at e6; simp [go_sem, e6]) (fun a' hI' n121' hk => ?_)
          replace n120 := hk _ _ n120 rfl
          have n121 := n121'
          replace hI := hI'
          clear hk hI' n121'
          obtain ⟨aa, rfl⟩ : ∃ x, x = a' := ⟨_, rfl⟩
          refine heldA_take (k := 9) (d := 122) (v := .bool false) hI rfl rfl (by kernel_rfl) (Nat.lt_of_le_of_lt (by decide) hsz) (wanted_at (d := 120) rfl (by kernel_rfl) n120) (fun z hz => by have e121 := n121; have f121 := n121.eval; unfold At at e121; simp [go_sem, e121]) (fun a' hI' n122' hk => ?_)
          replace n120 := hk _ _ n120 rfl
          clear n121
          have n122 := n122'
          replace hI := hI'
          clear hk hI' n122'
          obtain ⟨aa, rfl⟩ : ∃ x, x = a' := ⟨_, rfl⟩
          refine heldA_take (k := 10) (d := 123) (v := .bool false) hI rfl rfl (by kernel_rfl) (Nat.lt_of_le_of_lt (by decide) hsz) (wanted_free rfl) (fun z hz => by have e120 := n120; have f120 := n120.eval; unfold At at e120; have e122 := n122; have f122 := n122.eval; unfold At at e122; simp [go_sem, e120, e122]) (fun a' hI' n123' hk => ?_)
          clear n120
          clear n122
          have n123 := n123'
          replace hI := hI'
          clear hk hI' n123'
          obtain ⟨aa, rfl⟩ : ∃ x, x = a' := ⟨_, rfl⟩
          refine heldA_take (k := 11) (d := 124) (v := .bool false) hI rfl rfl (by kernel_rfl) (Nat.lt_of_le_of_lt (by decide) hsz) (wanted_free rfl) (fun z hz => by have e123 := n123; have f123 := n123.eval; unfold At at e123; simp [go_sem, e123]) (fun a' hI' n124' hk => ?_)
          clear n123
          have n124 := n124'
          replace hI := hI'
          clear hk hI' n124'
          obtain ⟨aa, rfl⟩ : ∃ x, x = a' := ⟨_, rfl⟩
          refine heldA_take (k := 12) (d := 125) (v := cargoV 7 0 7) hI rfl rfl (by kernel_rfl) (Nat.lt_of_le_of_lt (by decide) hsz) (wanted_at (d := 124) rfl (by kernel_rfl) n124) (fun z hz => by have n5 := hI.at m5 (by kernel_rfl); have e5 := n5; have f5 := n5.eval; unfold At at e5; have hz : z.heap[w1.heap.size]? = some (.cells #[.int .i64 6, .int .i64 5] 31) ∧ z.heap[BHR]? = some (.cells #[.int .i64 7, .int .i64 0, .int .i64 7] 28) ∧ z.heap[w19.heap.size]? = some (.cells #[.int .i64 7, .int .i64 15] 31) ∧ z.heap[BHQ]? = some (.cells #[.int .i64 2500, .int .i64 3] 31) := hz; have k0 := heap_cell hz.2.1 (j := 0) rfl; have k1 := heap_cell hz.2.1 (j := 1) rfl; have k2 := heap_cell hz.2.1 (j := 2) rfl; simp [go_sem, e5, k0, k1, k2]) (fun a' hI' n125' hk => ?_)
          replace n124 := hk _ _ n124 rfl
          have n125 := n125'
          replace hI := hI'
          clear hk hI' n125'
          obtain ⟨aa, rfl⟩ : ∃ x, x = a' := ⟨_, rfl⟩
          refine heldA_call (k := 13) (d := 126) (v := cargoV 7 0 7) hI rfl rfl (by kernel_rfl) (Nat.lt_of_le_of_lt (by decide) hsz) (wanted_at (d := 124) rfl (by kernel_rfl) n124) (bags_any 7 _) (by simp [go_sem]) (fun w' hb => ⟨heap_lift HM.out (below_then hq hb), heap_lift HR.out (below_then hq hb), heap_lift HA.out (below_then hq hb), heap_lift HQ.out (below_then hq hb)⟩) (fun w37 a' hb hI' n126' hk => ?_)
          replace hq := below_then hq hb
          clear hb
          replace n124 := hk _ _ n124 rfl
          replace n125 := hk _ _ n125 rfl
          have n126 := n126'
          replace hI := hI'
          clear hk hI' n126'
          obtain ⟨aa, rfl⟩ : ∃ x, x = a' := ⟨_, rfl⟩
          refine heldA_take (k := 14) (d := 127) (v := .bool false) hI rfl rfl (by kernel_rfl) (Nat.lt_of_le_of_lt (by decide) hsz) (wanted_at (d := 124) rfl (by kernel_rfl) n124) (fun z hz => by have e125 := n125; have f125 := n125.eval; unfold At at e125; have e126 := n126; have f126 := n126.eval; unfold At at e126; simp [go_sem, e125, e126]) (fun a' hI' n127' hk => ?_)
          replace n124 := hk _ _ n124 rfl
          clear n125
          clear n126
          have n127 := n127'
          replace hI := hI'
          clear hk hI' n127'
          obtain ⟨aa, rfl⟩ : ∃ x, x = a' := ⟨_, rfl⟩
          refine heldA_take (k := 15) (d := 128) (v := .bool false) hI rfl rfl (by kernel_rfl) (Nat.lt_of_le_of_lt (by decide) hsz) (wanted_free rfl) (fun z hz => by have e124 := n124; have f124 := n124.eval; unfold At at e124; have e127 := n127; have f127 := n127.eval; unfold At at e127; simp [go_sem, e124, e127]) (fun a' hI' n128' hk => ?_)
          clear n124
          clear n127
          have n128 := n128'
          replace hI := hI'
          clear hk hI' n128'
          obtain ⟨aa, rfl⟩ : ∃ x, x = a' := ⟨_, rfl⟩
          refine heldA_take (k := 16) (d := 129) (v := .bool false) hI rfl rfl (by kernel_rfl) (Nat.lt_of_le_of_lt (by decide) hsz) (wanted_free rfl) (fun z hz => by have e128 := n128; have f128 := n128.eval; unfold At at e128; simp [go_sem, e128]) (fun a' hI' n129' hk => ?_)
          clear n128
          have n129 := n129'
          replace hI := hI'
          clear hk hI' n129'
          obtain ⟨aa, rfl⟩ : ∃ x, x = a' := ⟨_, rfl⟩
          refine heldA_take (k := 17) (d := 130) (v := .int .i64 0) hI rfl rfl (by kernel_rfl) (Nat.lt_of_le_of_lt (by decide) hsz) (wanted_at (d := 129) rfl (by kernel_rfl) n129) (fun z hz => by have n8 := hI.at m8 (by kernel_rfl); have e8 := n8; have f8 := n8.eval; unfold At at e8; simp [go_sem, e8]) (fun a' hI' n130' hk => ?_)
          replace n129 := hk _ _ n129 rfl
          have n130 := n130'
          replace hI := hI'
          clear hk hI' n130'
          obtain ⟨aa, rfl⟩ : ∃ x, x = a' := ⟨_, rfl⟩
          refine heldA_take (k := 18) (d := 131) (v := .bool false) hI rfl rfl (by kernel_rfl) (Nat.lt_of_le_of_lt (by decide) hsz) (wanted_at (d := 129) rfl (by kernel_rfl) n129) (fun z hz => by have e130 := n130; have f130 := n130.eval; unfold At at e130; simp [go_sem, e130]) (fun a' hI' n131' hk => ?_)
          replace n129 := hk _ _ n129 rfl
          clear n130
          have n131 := n131'
          replace hI := hI'
          clear hk hI' n131'
          obtain ⟨aa, rfl⟩ : ∃ x, x = a' := ⟨_, rfl⟩
          refine heldA_take (k := 19) (d := 132) (v := .bool false) hI rfl rfl (by kernel_rfl) (Nat.lt_of_le_of_lt (by decide) hsz) (wanted_free rfl) (fun z hz => by have e129 := n129; have f129 := n129.eval; unfold At at e129; have e131 := n131; have f131 := n131.eval; unfold At at e131; simp [go_sem, e129, e131]) (fun a' hI' n132' hk => ?_)
          clear n129
          clear n131
          have n132 := n132'
          replace hI := hI'
          clear hk hI' n132'
          obtain ⟨aa, rfl⟩ : ∃ x, x = a' := ⟨_, rfl⟩
          refine heldA_take (k := 20) (d := 133) (v := .bool false) hI rfl rfl (by kernel_rfl) (Nat.lt_of_le_of_lt (by decide) hsz) (wanted_free rfl) (fun z hz => by have e132 := n132; have f132 := n132.eval; unfold At at e132; simp [go_sem, e132]) (fun a' hI' n133' hk => ?_)
          clear n132
          have n133 := n133'
          replace hI := hI'
          clear hk hI' n133'
          obtain ⟨aa, rfl⟩ : ∃ x, x = a' := ⟨_, rfl⟩
          refine heldA_take (k := 21) (d := 134) (v := v5) hI rfl rfl (by kernel_rfl) (Nat.lt_of_le_of_lt (by decide) hsz) (wanted_at (d := 133) rfl (by kernel_rfl) n133) (fun z hz => by have n7 := hI.at m7 (by kernel_rfl); have e7 := n7; have f7 := n7.eval; unfold At at e7; simp [go_sem, e7]) (fun a' hI' n134' hk => ?_)
          replace n133 := hk _ _ n133 rfl
          have n134 := n134'
          replace hI := hI'
          clear hk hI' n134'
          obtain ⟨aa, rfl⟩ : ∃ x, x = a' := ⟨_, rfl⟩
          have hb : Below w37.heap.size w37 (w37.alloc (.cells #[.int .i64 5] 3)) := (Below.refl _ _).alloc (Nat.le_refl _) _
          replace hq := below_then hq hb
          clear hb
          refine heldA_value (k := 22) (d := 135) (v := .slice (some ⟨w37.heap.size, 0, none⟩) 1 1) (w' := w37.alloc (.cells #[.int .i64 5] 3)) hI rfl rfl (by kernel_rfl) (Nat.lt_of_le_of_lt (by decide) hsz) (wanted_at (d := 133) rfl (by kernel_rfl) n133) (by simp [go_sem]) ⟨heap_lift HM.out hq, heap_lift HR.out hq, heap_lift HA.out hq, heap_lift HQ.out hq⟩ (fun a' hI' n135' hk => ?_)
          obtain ⟨w38, hua⟩ : ∃ x, w37.alloc (.cells #[.int .i64 5] 3) = x := ⟨_, rfl⟩
          have hz : w38.heap[w37.heap.size]? = some (.cells #[.int .i64 5] 3) := by rw [← hua]; exact heap_top _ _ rfl
          rw [hua] at hq ⊢
          clear hua
          replace n133 := hk _ _ n133 rfl
          replace n134 := hk _ _ n134 rfl
          have n135 := n135'
          replace hI := hI'
          clear hk hI' n135'
          obtain ⟨aa, rfl⟩ : ∃ x, x = a' := ⟨_, rfl⟩
          refine heldA_call (k := 23) (d := 136) (v := .bool true) hI rfl rfl (by kernel_rfl) (Nat.lt_of_le_of_lt (by decide) hsz) (wanted_at (d := 133) rfl (by kernel_rfl) n133) (sameInts_any _ _ [5] (by decide) _ (H5.out.below hq) (lit_ints1 hz)) (by have e134 := n134; have f134 := n134.eval; unfold At at e134; have e135 := n135; have f135 := n135.eval; unfold At at e135; simp [go_sem, e134, e135]) (fun w' hb => ⟨heap_lift HM.out (below_then hq hb), heap_lift HR.out (below_then hq hb), heap_lift HA.out (below_then hq hb), heap_lift HQ.out (below_then hq hb)⟩) (fun w39 a' hb hI' n136' hk => ?_)
          replace hq := below_then hq hb
          clear hb
          clear hz
          replace n133 := hk _ _ n133 rfl
          clear n134
          clear n135
          have n136 := n136'
          replace hI := hI'
          clear hk hI' n136'
          obtain ⟨aa, rfl⟩ : ∃ x, x = a' := ⟨_, rfl⟩
          refine heldA_take (k := 24) (d := 137) (v := .bool false) hI rfl rfl (by kernel_rfl) (Nat.lt_of_le_of_lt (by decide) hsz) (wanted_at (d := 133) rfl (by kernel_rfl) n133) (fun z hz => by have e136 := n136; have f136 := n136.eval; unfold At at e136; simp [go_sem, e136]) (fun a' hI' n137' hk => ?_)
          replace n133 := hk _ _ n133 rfl
          clear n136
          have n137 := n137'
          replace hI := hI'
          clear hk hI' n137'
          obtain ⟨aa, rfl⟩ : ∃ x, x = a' := ⟨_, rfl⟩
          refine heldA_take (k := 25) (d := 138) (v := .bool false) hI rfl rfl (by kernel_rfl) (Nat.lt_of_le_of_lt (by decide) hsz) (wanted_free rfl) (fun z hz => by have e133 := n133; have f133 := n133.eval; unfold At at e133; have e137 := n137; have f137 := n137.eval; unfold At at e137; simp [go_sem, e133, e137]) (fun a' hI' n138' hk => ?_)
          clear n133
          clear n137
          have n138 := n138'
          replace hI := hI'
          clear hk hI' n138'
          obtain ⟨aa, rfl⟩ : ∃ x, x = a' := ⟨_, rfl⟩
          refine heldA_take (k := 26) (d := 139) (v := .bool false) hI rfl rfl (by kernel_rfl) (Nat.lt_of_le_of_lt (by decide) hsz) (wanted_free rfl) (fun z hz => by have e138 := n138; have f138 := n138.eval; unfold At at e138; simp [go_sem, e138]) (fun a' hI' n139' hk => ?_)
          clear n138
          have n139 := n139'
          replace hI := hI'
          clear hk hI' n139'
          obtain ⟨aa, rfl⟩ : ∃ x, x = a' := ⟨_, rfl⟩
          refine heldA_take (k := 27) (d := 140) (v := .int .i64 0) hI rfl rfl (by kernel_rfl) (Nat.lt_of_le_of_lt (by decide) hsz) (wanted_at (d := 139) rfl (by kernel_rfl) n139) (fun z hz => by have n10 := hI.at m10 (by kernel_rfl); have e10 := n10; have f10 := n10.eval; unfold At at e10; simp [go_sem, e10]) (fun a' hI' n140' hk => ?_)
          replace n139 := hk _ _ n139 rfl
          have n140 := n140'
          replace hI := hI'
          clear hk hI' n140'
          obtain ⟨aa, rfl⟩ : ∃ x, x = a' := ⟨_, rfl⟩
          refine heldA_take (k := 28) (d := 141) (v := .bool false) hI rfl rfl (by kernel_rfl) (Nat.lt_of_le_of_lt (by decide) hsz) (wanted_at (d := 139) rfl (by kernel_rfl) n139) (fun z hz => by have e140 := n140; have f140 := n140.eval; unfold At at e140; simp [go_sem, e140]) (fun a' hI' n141' hk => ?_)
          replace n139 := hk _ _ n139 rfl
          clear n140
          have n141 := n141'
          replace hI := hI'
          clear hk hI' n141'
          obtain ⟨aa, rfl⟩ : ∃ x, x = a' := ⟨_, rfl⟩
          refine heldA_take (k := 29) (d := 142) (v := .bool false) hI rfl rfl (by kernel_rfl) (Nat.lt_of_le_of_lt (by decide) hsz) (wanted_free rfl) (fun z hz => by have e139 := n139; have f139 := n139.eval; unfold At at e139; have e141 := n141; have f141 := n141.eval; unfold At at e141; simp [go_sem, e139, e141]) (fun a' hI' n142' hk => ?_)
          clear n139
          clear n141
          have n142 := n142'
          replace hI := hI'
          clear hk hI' n142'
          obtain ⟨aa, rfl⟩ : ∃ x, x = a' := ⟨_, rfl⟩
          refine heldA_take (k := 30) (d := 143) (v := .bool false) hI rfl rfl (by kernel_rfl) (Nat.lt_of_le_of_lt (by decide) hsz) (wanted_free rfl) (fun z hz => by have e142 := n142; have f142 := n142.eval; unfold At at e142; simp [go_sem, e142]) (fun a' hI' n143' hk => ?_)
          clear n142
          have n143 := n143'
          replace hI := hI'
          clear hk hI' n143'
          obtain ⟨aa, rfl⟩ : ∃ x, x = a' := ⟨_, rfl⟩
          refine heldA_take (k := 31) (d := 144) (v := v9) hI rfl rfl (by kernel_rfl) (Nat.lt_of_le_of_lt (by decide) hsz) (wanted_at (d := 143) rfl (by kernel_rfl) n143) (fun z hz => by have n9 := hI.at m9 (by kernel_rfl); have e9 := n9; have f9 := n9.eval; unfold At at e9; simp [go_sem, e9]) (fun a' hI' n144' hk => ?_)
          replace n143 := hk _ _ n143 rfl
          have n144 := n144'
          replace hI := hI'
          clear hk hI' n144'
          obtain ⟨aa, rfl⟩ : ∃ x, x = a' := ⟨_, rfl⟩
          have hb : Below w39.heap.size w39 (w39.alloc (.cells #[.int .i64 3, .int .i64 4] 3)) := (Below.refl _ _).alloc (Nat.le_refl _) _
          replace hq := below_then hq hb
          clear hb
          refine heldA_value (k := 32) (d := 145) (v := .slice (some ⟨w39.heap.size, 0, none⟩) 2 2) (w' := w39.alloc (.cells #[.int .i64 3, .int .i64 4] 3)) hI rfl rfl (by kernel_rfl) (Nat.lt_of_le_of_lt (by decide) hsz) (wanted_at (d := 143) rfl (by kernel_rfl) n143) (by simp [go_sem]) ⟨heap_lift HM.out hq, heap_lift HR.out hq, heap_lift HA.out hq, heap_lift HQ.out hq⟩ (fun a' hI' n145' hk => ?_)
          obtain ⟨w40, hua⟩ : ∃ x, w39.alloc (.cells #[.int .i64 3, .int .i64 4] 3) = x := ⟨_, rfl⟩
          have hz : w40.heap[w39.heap.size]? = some (.cells #[.int .i64 3, .int .i64 4] 3) := by rw [← hua]; exact heap_top _ _ rfl
          rw [hua] at hq ⊢
          clear hua
          replace n143 := hk _ _ n143 rfl
          replace n144 := hk _ _ n144 rfl
          have n145 := n145'
          replace hI := hI'
          clear hk hI' n145'
          obtain ⟨aa, rfl⟩ : ∃ x, x = a' := ⟨_, rfl⟩
          refine heldA_call (k := 33) (d := 146) (v := .bool true) hI rfl rfl (by kernel_rfl) (Nat.lt_of_le_of_lt (by decide) hsz) (wanted_at (d := 143) rfl (by kernel_rfl) n143) (sameInts_any _ _ [3, 4] (by decide) _ (H9.out.below hq) (lit_ints2 hz)) (by have e144 := n144; have f144 := n144.eval; unfold At at e144; have e145 := n145; have f145 := n145.eval; unfold At at e145; simp [go_sem, e144, e145]) (fun w' hb => ⟨heap_lift HM.out (below_then hq hb), heap_lift HR.out (below_then hq hb), heap_lift HA.out (below_then hq hb), heap_lift HQ.out (below_then hq hb)⟩) (fun w41 a' hb hI' n146' hk => ?_)
          replace hq := below_then hq hb
          clear hb
          clear hz
          replace n143 := hk _ _ n143 rfl
          clear n144
          clear n145
          have n146 := n146'
          replace hI := hI'
          clear hk hI' n146'
          obtain ⟨aa, rfl⟩ : ∃ x, x = a' := ⟨_, rfl⟩
          refine heldA_take (k := 34) (d := 147) (v := .bool false) hI rfl rfl (by kernel_rfl) (Nat.lt_of_le_of_lt (by decide) hsz) (wanted_at (d := 143) rfl (by kernel_rfl) n143) (fun z hz => by have e146 := n146; have f146 := n146.eval; unfold At at e146; simp [go_sem, e146]) (fun a' hI' n147' hk => ?_)
          replace n143 := hk _ _ n143 rfl
          clear n146
          have n147 := n147'
          replace hI := hI'
          clear hk hI' n147'
          obtain ⟨aa, rfl⟩ : ∃ x, x = a' := ⟨_, rfl⟩
          refine heldA_take (k := 35) (d := 148) (v := .bool false) hI rfl rfl (by kernel_rfl) (Nat.lt_of_le_of_lt (by decide) hsz) (wanted_free rfl) (fun z hz => by have e143 := n143; have f143 := n143.eval; unfold At at e143; have e147 := n147; have f147 := n147.eval; unfold At at e147; simp [go_sem, e143, e147]) (fun a' hI' n148' hk => ?_)
          clear n143
          clear n147
          have n148 := n148'
          replace hI := hI'
          clear hk hI' n148'
          obtain ⟨aa, rfl⟩ : ∃ x, x = a' := ⟨_, rfl⟩
          refine heldA_take (k := 36) (d := 149) (v := .bool false) hI rfl rfl (by kernel_rfl) (Nat.lt_of_le_of_lt (by decide) hsz) (wanted_free rfl) (fun z hz => by have e148 := n148; have f148 := n148.eval; unfold At at e148; simp [go_sem, e148]) (fun a' hI' n149' hk => ?_)
          clear n148
          have n149 := n149'
          replace hI := hI'
          clear hk hI' n149'
          obtain ⟨aa, rfl⟩ : ∃ x, x = a' := ⟨_, rfl⟩
          refine heldA_take (k := 37) (d := 150) (v := .int .i64 0) hI rfl rfl (by kernel_rfl) (Nat.lt_of_le_of_lt (by decide) hsz) (wanted_at (d := 149) rfl (by kernel_rfl) n149) (fun z hz => by have n12 := hI.at m12 (by kernel_rfl); have e12 := n12; have f12 := n12.eval; unfold At at e12; simp [go_sem, e12]) (fun a' hI' n150' hk => ?_)
          replace n149 := hk _ _ n149 rfl
          have n150 := n150'
          replace hI := hI'
          clear hk hI' n150'
          obtain ⟨aa, rfl⟩ : ∃ x, x = a' := ⟨_, rfl⟩
          refine heldA_take (k := 38) (d := 151) (v := .bool false) hI rfl rfl (by kernel_rfl) (Nat.lt_of_le_of_lt (by decide) hsz) (wanted_at (d := 149) rfl (by kernel_rfl) n149) (fun z hz => by have e150 := n150; have f150 := n150.eval; unfold At at e150; simp [go_sem, e150]) (fun a' hI' n151' hk => ?_)
          replace n149 := hk _ _ n149 rfl
          clear n150
          have n151 := n151'
          replace hI := hI'
          clear hk hI' n151'
          obtain ⟨aa, rfl⟩ : ∃ x, x = a' := ⟨_, rfl⟩
          refine heldA_take (k := 39) (d := 152) (v := .bool false) hI rfl rfl (by kernel_rfl) (Nat.lt_of_le_of_lt (by decide) hsz) (wanted_free rfl) (fun z hz => by have e149 := n149; have f149 := n149.eval; unfold At at e149; have e151 := n151; have f151 := n151.eval; unfold At at e151; simp [go_sem, e149, e151]) (fun a' hI' n152' hk => ?_)
          clear n149
          clear n151
          have n152 := n152'
          replace hI := hI'
          clear hk hI' n152'
          obtain ⟨aa, rfl⟩ : ∃ x, x = a' := ⟨_, rfl⟩
          refine heldA_take (k := 40) (d := 153) (v := .bool false) hI rfl rfl (by kernel_rfl) (Nat.lt_of_le_of_lt (by decide) hsz) (wanted_free rfl) (fun z hz => by have e152 := n152; have f152 := n152.eval; unfold At at e152; simp [go_sem, e152]) (fun a' hI' n153' hk => ?_)
          clear n152
          have n153 := n153'
          replace hI := hI'
          clear hk hI' n153'
          obtain ⟨aa, rfl⟩ : ∃ x, x = a' := ⟨_, rfl⟩
          refine heldA_take (k := 41) (d := 154) (v := .int .i64 9) hI rfl rfl (by kernel_rfl) (Nat.lt_of_le_of_lt (by decide) hsz) (wanted_at (d := 153) rfl (by kernel_rfl) n153) (fun z hz => by have n11 := hI.at m11 (by kernel_rfl); have e11 := n11; have f11 := n11.eval; unfold At at e11; simp [go_sem, e11]) (fun a' hI' n154' hk => ?_)
          replace n153 := hk _ _ n153 rfl
          have n154 := n154'
          replace hI := hI'
          clear hk hI' n154'
          obtain ⟨aa, rfl⟩ : ∃ x, x = a' := ⟨_, rfl⟩
          refine heldA_take (k := 42) (d := 155) (v := .bool false) hI rfl rfl (by kernel_rfl) (Nat.lt_of_le_of_lt (by decide) hsz) (wanted_at (d := 153) rfl (by kernel_rfl) n153) (fun z hz => by have e154 := n154; have f154 := n154.eval; unfold At at e154; simp [go_sem, e154]) (fun a' hI' n155' hk => ?_)
          replace n153 := hk _ _ n153 rfl
          clear n154
          have n155 := n155'
          replace hI := hI'
          clear hk hI' n155'
          obtain ⟨aa, rfl⟩ : ∃ x, x = a' := ⟨_, rfl⟩
          refine heldA_take (k := 43) (d := 156) (v := .bool false) hI rfl rfl (by kernel_rfl) (Nat.lt_of_le_of_lt (by decide) hsz) (wanted_free rfl) (fun z hz => by have e153 := n153; have f153 := n153.eval; unfold At at e153; have e155 := n155; have f155 := n155.eval; unfold At at e155; simp [go_sem, e153, e155]) (fun a' hI' n156' hk => ?_)
          clear n153
          clear n155
          have n156 := n156'
          replace hI := hI'
          clear hk hI' n156'
          obtain ⟨aa, rfl⟩ : ∃ x, x = a' := ⟨_, rfl⟩
          refine heldA_take (k := 44) (d := 157) (v := .bool false) hI rfl rfl (by kernel_rfl) (Nat.lt_of_le_of_lt (by decide) hsz) (wanted_free rfl) (fun z hz => by have e156 := n156; have f156 := n156.eval; unfold At at e156; simp [go_sem, e156]) (fun a' hI' n157' hk => ?_)
          clear n156
          have n157 := n157'
          replace hI := hI'
          clear hk hI' n157'
          obtain ⟨aa, rfl⟩ : ∃ x, x = a' := ⟨_, rfl⟩
          refine heldA_take (k := 45) (d := 158) (v := .int .i64 0) hI rfl rfl (by kernel_rfl) (Nat.lt_of_le_of_lt (by decide) hsz) (wanted_at (d := 157) rfl (by kernel_rfl) n157) (fun z hz => by have n14 := hI.at m14 (by kernel_rfl); have e14 := n14; have f14 := n14.eval; unfold At at e14; simp [go_sem, e14]) (fun a' hI' n158' hk => ?_)
          replace n157 := hk _ _ n157 rfl
          have n158 := n158'
          replace hI := hI'
          clear hk hI' n158'
          obtain ⟨aa, rfl⟩ : ∃ x, x = a' := ⟨_, rfl⟩
          refine heldA_take (k := 46) (d := 159) (v := .bool false) hI rfl rfl (by kernel_rfl) (Nat.lt_of_le_of_lt (by decide) hsz) (wanted_at (d := 157) rfl (by kernel_rfl) n157) (fun z hz => by have e158 := n158; have f158 := n158.eval; unfold At at e158; simp [go_sem, e158]) (fun a' hI' n159' hk => ?_)
          replace n157 := hk _ _ n157 rfl
          clear n158
          have n159 := n159'
          replace hI := hI'
          clear hk hI' n159'
          obtain ⟨aa, rfl⟩ : ∃ x, x = a' := ⟨_, rfl⟩
          refine heldA_take (k := 47) (d := 160) (v := .bool false) hI rfl rfl (by kernel_rfl) (Nat.lt_of_le_of_lt (by decide) hsz) (wanted_free rfl) (fun z hz => by have e157 := n157; have f157 := n157.eval; unfold At at e157; have e159 := n159; have f159 := n159.eval; unfold At at e159; simp [go_sem, e157, e159]) (fun a' hI' n160' hk => ?_)
          clear n157
          clear n159
          have n160 := n160'
          replace hI := hI'
          clear hk hI' n160'
          obtain ⟨aa, rfl⟩ : ∃ x, x = a' := ⟨_, rfl⟩
          refine heldA_take (k := 48) (d := 161) (v := .bool false) hI rfl rfl (by kernel_rfl) (Nat.lt_of_le_of_lt (by decide) hsz) (wanted_free rfl) (fun z hz => by have e160 := n160; have f160 := n160.eval; unfold At at e160; simp [go_sem, e160]) (fun a' hI' n161' hk => ?_)
          clear n160
          have n161 := n161'
          replace hI := hI'
          clear hk hI' n161'
          obtain ⟨aa, rfl⟩ : ∃ x, x = a' := ⟨_, rfl⟩
          refine heldA_take (k := 49) (d := 162) (v := .agg #[.int .i64 7, .int .i64 15]) hI rfl rfl (by kernel_rfl) (Nat.lt_of_le_of_lt (by decide) hsz) (wanted_at (d := 161) rfl (by kernel_rfl) n161) (fun z hz => by have n13 := hI.at m13 (by kernel_rfl); have e13 := n13; have f13 := n13.eval; unfold At at e13; have hz : z.heap[w1.heap.size]? = some (.cells #[.int .i64 6, .int .i64 5] 31) ∧ z.heap[BHR]? = some (.cells #[.int .i64 7, .int .i64 0, .int .i64 7] 28) ∧ z.heap[w19.heap.size]? = some (.cells #[.int .i64 7, .int .i64 15] 31) ∧ z.heap[BHQ]? = some (.cells #[.int .i64 2500, .int .i64 3] 31) := hz; have k0 := heap_cell hz.2.2.1 (j := 0) rfl; have k1 := heap_cell hz.2.2.1 (j := 1) rfl; simp [go_sem, e13, k0, k1]) (fun a' hI' n162' hk => ?_)
          replace n161 := hk _ _ n161 rfl
          have n162 := n162'
          replace hI := hI'
          clear hk hI' n162'
          obtain ⟨aa, rfl⟩ : ∃ x, x = a' := ⟨_, rfl⟩
          refine heldA_call (k := 50) (d := 163) (v := .agg #[.int .i64 7, .int .i64 15]) hI rfl rfl (by kernel_rfl) (Nat.lt_of_le_of_lt (by decide) hsz) (wanted_at (d := 161) rfl (by kernel_rfl) n161) (newPart_any 7 15 _) (by simp [go_sem]) (fun w' hb => ⟨heap_lift HM.out (below_then hq hb), heap_lift HR.out (below_then hq hb), heap_lift HA.out (below_then hq hb), heap_lift HQ.out (below_then hq hb)⟩) (fun w42 a' hb hI' n163' hk => ?_)
          replace hq := below_then hq hb
          clear hb
          replace n161 := hk _ _ n161 rfl
          replace n162 := hk _ _ n162 rfl
          have n163 := n163'
          replace hI := hI'
          clear hk hI' n163'
          obtain ⟨aa, rfl⟩ : ∃ x, x = a' := ⟨_, rfl⟩
          refine heldA_take (k := 51) (d := 164) (v := .bool false) hI rfl rfl (by kernel_rfl) (Nat.lt_of_le_of_lt (by decide) hsz) (wanted_at (d := 161) rfl (by kernel_rfl) n161) (fun z hz => by have e162 := n162; have f162 := n162.eval; unfold At at e162; have e163 := n163; have f163 := n163.eval; unfold At at e163; simp [go_sem, e162, e163]) (fun a' hI' n164' hk => ?_)
          replace n161 := hk _ _ n161 rfl
          clear n162
          clear n163
          have n164 := n164'
          replace hI := hI'
          clear hk hI' n164'
          obtain ⟨aa, rfl⟩ : ∃ x, x = a' := ⟨_, rfl⟩
          refine heldA_take (k := 52) (d := 165) (v := .bool false) hI rfl rfl (by kernel_rfl) (Nat.lt_of_le_of_lt (by decide) hsz) (wanted_free rfl) (fun z hz => by have e161 := n161; have f161 := n161.eval; unfold At at e161; have e164 := n164; have f164 := n164.eval; unfold At at e164; simp [go_sem, e161, e164]) (fun a' hI' n165' hk => ?_)
          clear n161
          clear n164
          have n165 := n165'
          replace hI := hI'
          clear hk hI' n165'
          obtain ⟨aa, rfl⟩ : ∃ x, x = a' := ⟨_, rfl⟩
          refine heldA_take (k := 53) (d := 166) (v := .bool false) hI rfl rfl (by kernel_rfl) (Nat.lt_of_le_of_lt (by decide) hsz) (wanted_free rfl) (fun z hz => by have e165 := n165; have f165 := n165.eval; unfold At at e165; simp [go_sem, e165]) (fun a' hI' n166' hk => ?_)
          clear n165
          have n166 := n166'
          replace hI := hI'
          clear hk hI' n166'
          obtain ⟨aa, rfl⟩ : ∃ x, x = a' := ⟨_, rfl⟩
          refine heldA_take (k := 54) (d := 167) (v := .int .i64 0) hI rfl rfl (by kernel_rfl) (Nat.lt_of_le_of_lt (by decide) hsz) (wanted_at (d := 166) rfl (by kernel_rfl) n166) (fun z hz => by have n16 := hI.at m16 (by kernel_rfl); have e16 := n16; have f16 := n16.eval; unfold At at e16; simp [go_sem, e16]) (fun a' hI' n167' hk => ?_)
          replace n166 := hk _ _ n166 rfl
          have n167 := n167'
          replace hI := hI'
          clear hk hI' n167'
          obtain ⟨aa, rfl⟩ : ∃ x, x = a' := ⟨_, rfl⟩
          refine heldA_take (k := 55) (d := 168) (v := .bool false) hI rfl rfl (by kernel_rfl) (Nat.lt_of_le_of_lt (by decide) hsz) (wanted_at (d := 166) rfl (by kernel_rfl) n166) (fun z hz => by have e167 := n167; have f167 := n167.eval; unfold At at e167; simp [go_sem, e167]) (fun a' hI' n168' hk => ?_)
          replace n166 := hk _ _ n166 rfl
          clear n167
          have n168 := n168'
          replace hI := hI'
          clear hk hI' n168'
          obtain ⟨aa, rfl⟩ : ∃ x, x = a' := ⟨_, rfl⟩
          refine heldA_take (k := 56) (d := 169) (v := .bool false) hI rfl rfl (by kernel_rfl) (Nat.lt_of_le_of_lt (by decide) hsz) (wanted_free rfl) (fun z hz => by have e166 := n166; have f166 := n166.eval; unfold At at e166; have e168 := n168; have f168 := n168.eval; unfold At at e168; simp [go_sem, e166, e168]) (fun a' hI' n169' hk => ?_)
          clear n166
          clear n168
          have n169 := n169'
          replace hI := hI'
          clear hk hI' n169'
          obtain ⟨aa, rfl⟩ : ∃ x, x = a' := ⟨_, rfl⟩
          refine heldA_take (k := 57) (d := 170) (v := .bool false) hI rfl rfl (by kernel_rfl) (Nat.lt_of_le_of_lt (by decide) hsz) (wanted_free rfl) (fun z hz => by have e169 := n169; have f169 := n169.eval; unfold At at e169; simp [go_sem, e169]) (fun a' hI' n170' hk => ?_)
          clear n169
          have n170 := n170'
          replace hI := hI'
          clear hk hI' n170'
          obtain ⟨aa, rfl⟩ : ∃ x, x = a' := ⟨_, rfl⟩
          refine heldA_take (k := 58) (d := 171) (v := .slice a15 4 cap15) hI rfl rfl (by kernel_rfl) (Nat.lt_of_le_of_lt (by decide) hsz) (wanted_at (d := 170) rfl (by kernel_rfl) n170) (fun z hz => by have n15 := hI.at m15 (by kernel_rfl); have e15 := n15; have f15 := n15.eval; unfold At at e15; simp [go_sem, e15]) (fun a' hI' n171' hk => ?_)
          replace n170 := hk _ _ n170 rfl
          have n171 := n171'
          replace hI := hI'
          clear hk hI' n171'
          obtain ⟨aa, rfl⟩ : ∃ x, x = a' := ⟨_, rfl⟩
          refine heldA_call (k := 59) (d := 172) (v := .agg #[.int .i64 1, .int .i64 1]) hI rfl rfl (by kernel_rfl) (Nat.lt_of_le_of_lt (by decide) hsz) (wanted_at (d := 170) rfl (by kernel_rfl) n170) (newPart_any 1 1 _) (by simp [go_sem]) (fun w' hb => ⟨heap_lift HM.out (below_then hq hb), heap_lift HR.out (below_then hq hb), heap_lift HA.out (below_then hq hb), heap_lift HQ.out (below_then hq hb)⟩) (fun w43 a' hb hI' n172' hk => ?_)
          replace hq := below_then hq hb
          clear hb
          replace n170 := hk _ _ n170 rfl
          replace n171 := hk _ _ n171 rfl
          have n172 := n172'
          replace hI := hI'
          clear hk hI' n172'
          obtain ⟨aa, rfl⟩ : ∃ x, x = a' := ⟨_, rfl⟩
          refine heldA_call (k := 60) (d := 173) (v := .agg #[.int .i64 7, .int .i64 10]) hI rfl rfl (by kernel_rfl) (Nat.lt_of_le_of_lt (by decide) hsz) (wanted_at (d := 170) rfl (by kernel_rfl) n170) (newPart_any 7 10 _) (by simp [go_sem]) (fun w' hb => ⟨heap_lift HM.out (below_then hq hb), heap_lift HR.out (below_then hq hb), heap_lift HA.out (below_then hq hb), heap_lift HQ.out (below_then hq hb)⟩) (fun w44 a' hb hI' n173' hk => ?_)
          replace hq := below_then hq hb
          clear hb
          replace n170 := hk _ _ n170 rfl
          replace n171 := hk _ _ n171 rfl
          replace n172 := hk _ _ n172 rfl
          have n173 := n173'
          replace hI := hI'
          clear hk hI' n173'
          obtain ⟨aa, rfl⟩ : ∃ x, x = a' := ⟨_, rfl⟩
          refine heldA_call (k := 61) (d := 174) (v := .agg #[.int .i64 7, .int .i64 15]) hI rfl rfl (by kernel_rfl) (Nat.lt_of_le_of_lt (by decide) hsz) (wanted_at (d := 170) rfl (by kernel_rfl) n170) (newPart_any 7 15 _) (by simp [go_sem]) (fun w' hb => ⟨heap_lift HM.out (below_then hq hb), heap_lift HR.out (below_then hq hb), heap_lift HA.out (below_then hq hb), heap_lift HQ.out (below_then hq hb)⟩) (fun w45 a' hb hI' n174' hk => ?_)
          replace hq := below_then hq hb
          clear hb
          replace n170 := hk _ _ n170 rfl
          replace n171 := hk _ _ n171 rfl
          replace n172 := hk _ _ n172 rfl
          replace n173 := hk _ _ n173 rfl
          have n174 := n174'
          replace hI := hI'
          clear hk hI' n174'
          obtain ⟨aa, rfl⟩ : ∃ x, x = a' := ⟨_, rfl⟩
          refine heldA_call (k := 62) (d := 175) (v := .agg #[.int .i64 7, .int .i64 24]) hI rfl rfl (by kernel_rfl) (Nat.lt_of_le_of_lt (by decide) hsz) (wanted_at (d := 170) rfl (by kernel_rfl) n170) (newPart_any 7 24 _) (by simp [go_sem]) (fun w' hb => ⟨heap_lift HM.out (below_then hq hb), heap_lift HR.out (below_then hq hb), heap_lift HA.out (below_then hq hb), heap_lift HQ.out (below_then hq hb)⟩) (fun w46 a' hb hI' n175' hk => ?_)
          replace hq := below_then hq hb
          clear hb
          replace n170 := hk _ _ n170 rfl
          replace n171 := hk _ _ n171 rfl
          replace n172 := hk _ _ n172 rfl
          replace n173 := hk _ _ n173 rfl
          replace n174 := hk _ _ n174 rfl
          have n175 := n175'
          replace hI := hI'
          clear hk hI' n175'
          obtain ⟨aa, rfl⟩ : ∃ x, x = a' := ⟨_, rfl⟩
          have hb : Below w46.heap.size w46 (w46.alloc (.cells #[.int .i64 1, .int .i64 1, .int .i64 7, .int .i64 10, .int .i64 7, .int .i64 15, .int .i64 7, .int .i64 24] 31)) := (Below.refl _ _).alloc (Nat.le_refl _) _
          replace hq := below_then hq hb
          clear hb
          refine heldA_value (k := 63) (d := 176) (v := .slice (some ⟨w46.heap.size, 0, none⟩) 4 4) (w' := w46.alloc (.cells #[.int .i64 1, .int .i64 1, .int .i64 7, .int .i64 10, .int .i64 7, .int .i64 15, .int .i64 7, .int .i64 24] 31)) hI rfl rfl (by kernel_rfl) (Nat.lt_of_le_of_lt (by decide) hsz) (wanted_at (d := 170) rfl (by kernel_rfl) n170) (by have f172 := n172.eval; have f173 := n173.eval; have f174 := n174.eval; have f175 := n175.eval; refine held_build [(172, .agg #[.int .i64 1, .int .i64 1]), (173, .agg #[.int .i64 7, .int .i64 10]), (174, .agg #[.int .i64 7, .int .i64 15]), (175, .agg #[.int .i64 7, .int .i64 24])] ?_ ?_ ?_; (intro _ _ h; cases h); (intro x hx; have hx' : x = .tmp 172 ∨ x = .tmp 173 ∨ x = .tmp 174 ∨ x = .tmp 175 := (by simpa [Op.operands] using hx); rcases hx' with rfl | rfl | rfl | rfl <;> first | exact f172 | exact f173 | exact f174 | exact f175); kernel_rfl) ⟨heap_lift HM.out hq, heap_lift HR.out hq, heap_lift HA.out hq, heap_lift HQ.out hq⟩ (fun a' hI' n176' hk => ?_)
          obtain ⟨w47, hua⟩ : ∃ x, w46.alloc (.cells #[.int .i64 1, .int .i64 1, .int .i64 7, .int .i64 10, .int .i64 7, .int .i64 15, .int .i64 7, .int .i64 24] 31) = x := ⟨_, rfl⟩
          have hz : w47.heap[w46.heap.size]? = some (.cells #[.int .i64 1, .int .i64 1, .int .i64 7, .int .i64 10, .int .i64 7, .int .i64 15, .int .i64 7, .int .i64 24] 31) := by rw [← hua]; exact heap_top _ _ rfl
          rw [hua] at hq ⊢
          clear hua
          replace n170 := hk _ _ n170 rfl
          replace n171 := hk _ _ n171 rfl
          clear n172
          clear n173
          clear n174
          clear n175
          have n176 := n176'
          replace hI := hI'
          clear hk hI' n176'
          obtain ⟨aa, rfl⟩ : ∃ x, x = a' := ⟨_, rfl⟩
          refine heldA_call (k := 64) (d := 177) (v := .bool true) hI rfl rfl (by kernel_rfl) (Nat.lt_of_le_of_lt (by decide) hsz) (wanted_at (d := 170) rfl (by kernel_rfl) n170) (sameParts_any _ _ 4 cap15 4 cvN cvD (by decide) _ (HV.out.below hq) (lit_parts4 hz)) (by have e171 := n171; have f171 := n171.eval; unfold At at e171; have e176 := n176; have f176 := n176.eval; unfold At at e176; simp [go_sem, e171, e176]) (fun w' hb => ⟨heap_lift HM.out (below_then hq hb), heap_lift HR.out (below_then hq hb), heap_lift HA.out (below_then hq hb), heap_lift HQ.out (below_then hq hb)⟩) (fun w48 a' hb hI' n177' hk => ?_)
          replace hq := below_then hq hb
          clear hb
          clear hz
          replace n170 := hk _ _ n170 rfl
          clear n171
          clear n176
          have n177 := n177'
          replace hI := hI'
          clear hk hI' n177'
          obtain ⟨aa, rfl⟩ : ∃ x, x = a' := ⟨_, rfl⟩
          refine heldA_take (k := 65) (d := 178) (v := .bool false) hI rfl rfl (by kernel_rfl) (Nat.lt_of_le_of_lt (by decide) hsz) (wanted_at (d := 170) rfl (by kernel_rfl) n170) (fun z hz => by have e177 := n177; have f177 := n177.eval; unfold At at e177; simp [go_sem, e177]) (fun a' hI' n178' hk => ?_)
          replace n170 := hk _ _ n170 rfl
          clear n177
          have n178 := n178'
          replace hI := hI'
          clear hk hI' n178'
          obtain ⟨aa, rfl⟩ : ∃ x, x = a' := ⟨_, rfl⟩
          refine heldA_take (k := 66) (d := 179) (v := .bool false) hI rfl rfl (by kernel_rfl) (Nat.lt_of_le_of_lt (by decide) hsz) (wanted_free rfl) (fun z hz => by have e170 := n170; have f170 := n170.eval; unfold At at e170; have e178 := n178; have f178 := n178.eval; unfold At at e178; simp [go_sem, e170, e178]) (fun a' hI' n179' hk => ?_)
          clear n170
          clear n178
          have n179 := n179'
          replace hI := hI'
          clear hk hI' n179'
          obtain ⟨aa, rfl⟩ : ∃ x, x = a' := ⟨_, rfl⟩
          refine heldA_take (k := 67) (d := 180) (v := .bool false) hI rfl rfl (by kernel_rfl) (Nat.lt_of_le_of_lt (by decide) hsz) (wanted_free rfl) (fun z hz => by have e179 := n179; have f179 := n179.eval; unfold At at e179; simp [go_sem, e179]) (fun a' hI' n180' hk => ?_)
          clear n179
          have n180 := n180'
          replace hI := hI'
          clear hk hI' n180'
          obtain ⟨aa, rfl⟩ : ∃ x, x = a' := ⟨_, rfl⟩
          refine heldA_take (k := 68) (d := 181) (v := .int .i64 0) hI rfl rfl (by kernel_rfl) (Nat.lt_of_le_of_lt (by decide) hsz) (wanted_at (d := 180) rfl (by kernel_rfl) n180) (fun z hz => by have n18 := hI.at m18 (by kernel_rfl); have e18 := n18; have f18 := n18.eval; unfold At at e18; simp [go_sem, e18]) (fun a' hI' n181' hk => ?_)
          replace n180 := hk _ _ n180 rfl
          have n181 := n181'
          replace hI := hI'
          clear hk hI' n181'
          obtain ⟨aa, rfl⟩ : ∃ x, x = a' := ⟨_, rfl⟩
          refine heldA_take (k := 69) (d := 182) (v := .bool false) hI rfl rfl (by kernel_rfl) (Nat.lt_of_le_of_lt (by decide) hsz) (wanted_at (d := 180) rfl (by kernel_rfl) n180) (fun z hz => by have e181 := n181; have f181 := n181.eval; unfold At at e181; simp [go_sem, e181]) (fun a' hI' n182' hk => ?_)
          replace n180 := hk _ _ n180 rfl
          clear n181
          have n182 := n182'
          replace hI := hI'
          clear hk hI' n182'
          obtain ⟨aa, rfl⟩ : ∃ x, x = a' := ⟨_, rfl⟩
          refine heldA_take (k := 70) (d := 183) (v := .bool false) hI rfl rfl (by kernel_rfl) (Nat.lt_of_le_of_lt (by decide) hsz) (wanted_free rfl) (fun z hz => by have e180 := n180; have f180 := n180.eval; unfold At at e180; have e182 := n182; have f182 := n182.eval; unfold At at e182; simp [go_sem, e180, e182]) (fun a' hI' n183' hk => ?_)
          clear n180
          clear n182
          have n183 := n183'
          replace hI := hI'
          clear hk hI' n183'
          obtain ⟨aa, rfl⟩ : ∃ x, x = a' := ⟨_, rfl⟩
          refine heldA_take (k := 71) (d := 184) (v := .bool false) hI rfl rfl (by kernel_rfl) (Nat.lt_of_le_of_lt (by decide) hsz) (wanted_free rfl) (fun z hz => by have e183 := n183; have f183 := n183.eval; unfold At at e183; simp [go_sem, e183]) (fun a' hI' n184' hk => ?_)
          clear n183
          have n184 := n184'
          replace hI := hI'
          clear hk hI' n184'
          obtain ⟨aa, rfl⟩ : ∃ x, x = a' := ⟨_, rfl⟩
          refine heldA_take (k := 72) (d := 185) (v := .bool true) hI rfl rfl (by kernel_rfl) (Nat.lt_of_le_of_lt (by decide) hsz) (wanted_at (d := 184) rfl (by kernel_rfl) n184) (fun z hz => by have n17 := hI.at m17 (by kernel_rfl); have e17 := n17; have f17 := n17.eval; unfold At at e17; simp [go_sem, e17]) (fun a' hI' n185' hk => ?_)
          replace n184 := hk _ _ n184 rfl
          have n185 := n185'
          replace hI := hI'
          clear hk hI' n185'
          obtain ⟨aa, rfl⟩ : ∃ x, x = a' := ⟨_, rfl⟩
          refine heldA_take (k := 73) (d := 186) (v := .bool false) hI rfl rfl (by kernel_rfl) (Nat.lt_of_le_of_lt (by decide) hsz) (wanted_at (d := 184) rfl (by kernel_rfl) n184) (fun z hz => by have e185 := n185; have f185 := n185.eval; unfold At at e185; simp [go_sem, e185]) (fun a' hI' n186' hk => ?_)
          replace n184 := hk _ _ n184 rfl
          clear n185
          have n186 := n186'
          replace hI := hI'
          clear hk hI' n186'
          obtain ⟨aa, rfl⟩ : ∃ x, x = a' := ⟨_, rfl⟩
          refine heldA_take (k := 74) (d := 187) (v := .bool false) hI rfl rfl (by kernel_rfl) (Nat.lt_of_le_of_lt (by decide) hsz) (wanted_free rfl) (fun z hz => by have e184 := n184; have f184 := n184.eval; unfold At at e184; have e186 := n186; have f186 := n186.eval; unfold At at e186; simp [go_sem, e184, e186]) (fun a' hI' n187' hk => ?_)
          clear n184
          clear n186
          have n187 := n187'
          replace hI := hI'
          clear hk hI' n187'
          obtain ⟨aa, rfl⟩ : ∃ x, x = a' := ⟨_, rfl⟩
          refine heldA_take (k := 75) (d := 188) (v := .bool false) hI rfl rfl (by kernel_rfl) (Nat.lt_of_le_of_lt (by decide) hsz) (wanted_free rfl) (fun z hz => by have e187 := n187; have f187 := n187.eval; unfold At at e187; simp [go_sem, e187]) (fun a' hI' n188' hk => ?_)
          clear n187
          have n188 := n188'
          replace hI := hI'
          clear hk hI' n188'
          obtain ⟨aa, rfl⟩ : ∃ x, x = a' := ⟨_, rfl⟩
          refine heldA_take (k := 76) (d := 189) (v := .int .i64 0) hI rfl rfl (by kernel_rfl) (Nat.lt_of_le_of_lt (by decide) hsz) (wanted_at (d := 188) rfl (by kernel_rfl) n188) (fun z hz => by have n20 := hI.at m20 (by kernel_rfl); have e20 := n20; have f20 := n20.eval; unfold At at e20; simp [go_sem, e20]) (fun a' hI' n189' hk => ?_)
          replace n188 := hk _ _ n188 rfl
          have n189 := n189'
          replace hI := hI'
          clear hk hI' n189'
          obtain ⟨aa, rfl⟩ : ∃ x, x = a' := ⟨_, rfl⟩
          refine heldA_take (k := 77) (d := 190) (v := .bool false) hI rfl rfl (by kernel_rfl) (Nat.lt_of_le_of_lt (by decide) hsz) (wanted_at (d := 188) rfl (by kernel_rfl) n188) (fun z hz => by have e189 := n189; have f189 := n189.eval; unfold At at e189; simp [go_sem, e189]) (fun a' hI' n190' hk => ?_)
          replace n188 := hk _ _ n188 rfl
          clear n189
          have n190 := n190'
          replace hI := hI'
          clear hk hI' n190'
          obtain ⟨aa, rfl⟩ : ∃ x, x = a' := ⟨_, rfl⟩
          refine heldA_take (k := 78) (d := 191) (v := .bool false) hI rfl rfl (by kernel_rfl) (Nat.lt_of_le_of_lt (by decide) hsz) (wanted_free rfl) (fun z hz => by have e188 := n188; have f188 := n188.eval; unfold At at e188; have e190 := n190; have f190 := n190.eval; unfold At at e190; simp [go_sem, e188, e190]) (fun a' hI' n191' hk => ?_)
          clear n188
          clear n190
          have n191 := n191'
          replace hI := hI'
          clear hk hI' n191'
          obtain ⟨aa, rfl⟩ : ∃ x, x = a' := ⟨_, rfl⟩
          refine heldA_take (k := 79) (d := 192) (v := .bool false) hI rfl rfl (by kernel_rfl) (Nat.lt_of_le_of_lt (by decide) hsz) (wanted_free rfl) (fun z hz => by have e191 := n191; have f191 := n191.eval; unfold At at e191; simp [go_sem, e191]) (fun a' hI' n192' hk => ?_)
          clear n191
          have n192 := n192'
          replace hI := hI'
          clear hk hI' n192'
          obtain ⟨aa, rfl⟩ : ∃ x, x = a' := ⟨_, rfl⟩
          refine heldA_take (k := 80) (d := 193) (v := .agg #[.int .i64 2500, .int .i64 3]) hI rfl rfl (by kernel_rfl) (Nat.lt_of_le_of_lt (by decide) hsz) (wanted_at (d := 192) rfl (by kernel_rfl) n192) (fun z hz => by have n19 := hI.at m19 (by kernel_rfl); have e19 := n19; have f19 := n19.eval; unfold At at e19; have hz : z.heap[w1.heap.size]? = some (.cells #[.int .i64 6, .int .i64 5] 31) ∧ z.heap[BHR]? = some (.cells #[.int .i64 7, .int .i64 0, .int .i64 7] 28) ∧ z.heap[w19.heap.size]? = some (.cells #[.int .i64 7, .int .i64 15] 31) ∧ z.heap[BHQ]? = some (.cells #[.int .i64 2500, .int .i64 3] 31) := hz; have k0 := heap_cell hz.2.2.2 (j := 0) rfl; have k1 := heap_cell hz.2.2.2 (j := 1) rfl; simp [go_sem, e19, k0, k1]) (fun a' hI' n193' hk => ?_)
          replace n192 := hk _ _ n192 rfl
          have n193 := n193'
          replace hI := hI'
          clear hk hI' n193'
          obtain ⟨aa, rfl⟩ : ∃ x, x = a' := ⟨_, rfl⟩
          refine heldA_call (k := 81) (d := 194) (v := .agg #[.int .i64 2500, .int .i64 3]) hI rfl rfl (by kernel_rfl) (Nat.lt_of_le_of_lt (by decide) hsz) (wanted_at (d := 192) rfl (by kernel_rfl) n192) (newPart_any 2500 3 _) (by simp [go_sem]) (fun w' hb => ⟨heap_lift HM.out (below_then hq hb), heap_lift HR.out (below_then hq hb), heap_lift HA.out (below_then hq hb), heap_lift HQ.out (below_then hq hb)⟩) (fun w49 a' hb hI' n194' hk => ?_)
          replace hq := below_then hq hb
          clear hb
          replace n192 := hk _ _ n192 rfl
          replace n193 := hk _ _ n193 rfl
          have n194 := n194'
          replace hI := hI'
          clear hk hI' n194'
          obtain ⟨aa, rfl⟩ : ∃ x, x = a' := ⟨_, rfl⟩
          refine heldA_take (k := 82) (d := 195) (v := .bool false) hI rfl rfl (by kernel_rfl) (Nat.lt_of_le_of_lt (by decide) hsz) (wanted_at (d := 192) rfl (by kernel_rfl) n192) (fun z hz => by have e193 := n193; have f193 := n193.eval; unfold At at e193; have e194 := n194; have f194 := n194.eval; unfold At at e194; simp [go_sem, e193, e194]) (fun a' hI' n195' hk => ?_)
          replace n192 := hk _ _ n192 rfl
          clear n193
          clear n194
          have n195 := n195'
          replace hI := hI'
          clear hk hI' n195'
          obtain ⟨aa, rfl⟩ : ∃ x, x = a' := ⟨_, rfl⟩
          refine heldA_take (k := 83) (d := 196) (v := .bool false) hI rfl rfl (by kernel_rfl) (Nat.lt_of_le_of_lt (by decide) hsz) (wanted_free rfl) (fun z hz => by have e192 := n192; have f192 := n192.eval; unfold At at e192; have e195 := n195; have f195 := n195.eval; unfold At at e195; simp [go_sem, e192, e195]) (fun a' hI' n196' hk => ?_)
          clear n192
          clear n195
          have n196 := n196'
          replace hI := hI'
          clear hk hI' n196'
          obtain ⟨aa, rfl⟩ : ∃ x, x = a' := ⟨_, rfl⟩
          refine heldA_take (k := 84) (d := 197) (v := .bool false) hI rfl rfl (by kernel_rfl) (Nat.lt_of_le_of_lt (by decide) hsz) (wanted_free rfl) (fun z hz => by have e196 := n196; have f196 := n196.eval; unfold At at e196; simp [go_sem, e196]) (fun a' hI' n197' hk => ?_)
          clear n196
          have n197 := n197'
          replace hI := hI'
          clear hk hI' n197'
          obtain ⟨aa, rfl⟩ : ∃ x, x = a' := ⟨_, rfl⟩
          refine heldA_take (k := 85) (d := 198) (v := .int .i64 0) hI rfl rfl (by kernel_rfl) (Nat.lt_of_le_of_lt (by decide) hsz) (wanted_at (d := 197) rfl (by kernel_rfl) n197) (fun z hz => by have n22 := hI.at m22 (by kernel_rfl); have e22 := n22; have f22 := n22.eval; unfold At at e22; simp [go_sem, e22]) (fun a' hI' n198' hk => ?_)
          replace n197 := hk _ _ n197 rfl
          have n198 := n198'
          replace hI := hI'
          clear hk hI' n198'
          obtain ⟨aa, rfl⟩ : ∃ x, x = a' := ⟨_, rfl⟩
          refine heldA_take (k := 86) (d := 199) (v := .bool false) hI rfl rfl (by kernel_rfl) (Nat.lt_of_le_of_lt (by decide) hsz) (wanted_at (d := 197) rfl (by kernel_rfl) n197) (fun z hz => by have e198 := n198; have f198 := n198.eval; unfold At at e198; simp [go_sem, e198]) (fun a' hI' n199' hk => ?_)
          replace n197 := hk _ _ n197 rfl
          clear n198
          have n199 := n199'
          replace hI := hI'
          clear hk hI' n199'
          obtain ⟨aa, rfl⟩ : ∃ x, x = a' := ⟨_, rfl⟩
          refine heldA_take (k := 87) (d := 200) (v := .bool false) hI rfl rfl (by kernel_rfl) (Nat.lt_of_le_of_lt (by decide) hsz) (wanted_free rfl) (fun z hz => by have e197 := n197; have f197 := n197.eval; unfold At at e197; have e199 := n199; have f199 := n199.eval; unfold At at e199; simp [go_sem, e197, e199]) (fun a' hI' n200' hk => ?_)
          clear n197
          clear n199
          have n200 := n200'
          replace hI := hI'
          clear hk hI' n200'
          obtain ⟨aa, rfl⟩ : ∃ x, x = a' := ⟨_, rfl⟩
          refine heldA_take (k := 88) (d := 201) (v := .bool false) hI rfl rfl (by kernel_rfl) (Nat.lt_of_le_of_lt (by decide) hsz) (wanted_free rfl) (fun z hz => by have e200 := n200; have f200 := n200.eval; unfold At at e200; simp [go_sem, e200]) (fun a' hI' n201' hk => ?_)
          clear n200
          have n201 := n201'
          replace hI := hI'
          clear hk hI' n201'
          obtain ⟨aa, rfl⟩ : ∃ x, x = a' := ⟨_, rfl⟩
          refine heldA_take (k := 89) (d := 202) (v := .int .i64 105) hI rfl rfl (by kernel_rfl) (Nat.lt_of_le_of_lt (by decide) hsz) (wanted_at (d := 201) rfl (by kernel_rfl) n201) (fun z hz => by have n21 := hI.at m21 (by kernel_rfl); have e21 := n21; have f21 := n21.eval; unfold At at e21; simp [go_sem, e21]) (fun a' hI' n202' hk => ?_)
          replace n201 := hk _ _ n201 rfl
          have n202 := n202'
          replace hI := hI'
          clear hk hI' n202'
          obtain ⟨aa, rfl⟩ : ∃ x, x = a' := ⟨_, rfl⟩
          refine heldA_take (k := 90) (d := 203) (v := .bool false) hI rfl rfl (by kernel_rfl) (Nat.lt_of_le_of_lt (by decide) hsz) (wanted_at (d := 201) rfl (by kernel_rfl) n201) (fun z hz => by have e202 := n202; have f202 := n202.eval; unfold At at e202; simp [go_sem, e202]) (fun a' hI' n203' hk => ?_)
          replace n201 := hk _ _ n201 rfl
          clear n202
          have n203 := n203'
          replace hI := hI'
          clear hk hI' n203'
          obtain ⟨aa, rfl⟩ : ∃ x, x = a' := ⟨_, rfl⟩
          refine heldA_take (k := 91) (d := 204) (v := .bool false) hI rfl rfl (by kernel_rfl) (Nat.lt_of_le_of_lt (by decide) hsz) (wanted_free rfl) (fun z hz => by have e201 := n201; have f201 := n201.eval; unfold At at e201; have e203 := n203; have f203 := n203.eval; unfold At at e203; simp [go_sem, e201, e203]) (fun a' hI' n204' hk => ?_)
          clear n201
          clear n203
          have n204 := n204'
          replace hI := hI'
          clear hk hI' n204'
          obtain ⟨aa, rfl⟩ : ∃ x, x = a' := ⟨_, rfl⟩
          refine heldA_take (k := 92) (d := 205) (v := .bool false) hI rfl rfl (by kernel_rfl) (Nat.lt_of_le_of_lt (by decide) hsz) (wanted_free rfl) (fun z hz => by have e204 := n204; have f204 := n204.eval; unfold At at e204; simp [go_sem, e204]) (fun a' hI' n205' hk => ?_)
          clear n204
          have n205 := n205'
          replace hI := hI'
          clear hk hI' n205'
          obtain ⟨aa, rfl⟩ : ∃ x, x = a' := ⟨_, rfl⟩
          refine heldA_take (k := 93) (d := 206) (v := .int .i64 0) hI rfl rfl (by kernel_rfl) (Nat.lt_of_le_of_lt (by decide) hsz) (wanted_at (d := 205) rfl (by kernel_rfl) n205) (fun z hz => by have n24 := hI.at m24 (by kernel_rfl); have e24 := n24; have f24 := n24.eval; unfold At at e24; simp [go_sem, e24]) (fun a' hI' n206' hk => ?_)
          replace n205 := hk _ _ n205 rfl
          have n206 := n206'
          replace hI := hI'
          clear hk hI' n206'
          obtain ⟨aa, rfl⟩ : ∃ x, x = a' := ⟨_, rfl⟩
          refine heldA_take (k := 94) (d := 207) (v := .bool false) hI rfl rfl (by kernel_rfl) (Nat.lt_of_le_of_lt (by decide) hsz) (wanted_at (d := 205) rfl (by kernel_rfl) n205) (fun z hz => by have e206 := n206; have f206 := n206.eval; unfold At at e206; simp [go_sem, e206]) (fun a' hI' n207' hk => ?_)
          replace n205 := hk _ _ n205 rfl
          clear n206
          have n207 := n207'
          replace hI := hI'
          clear hk hI' n207'
          obtain ⟨aa, rfl⟩ : ∃ x, x = a' := ⟨_, rfl⟩
          refine heldA_take (k := 95) (d := 208) (v := .bool false) hI rfl rfl (by kernel_rfl) (Nat.lt_of_le_of_lt (by decide) hsz) (wanted_free rfl) (fun z hz => by have e205 := n205; have f205 := n205.eval; unfold At at e205; have e207 := n207; have f207 := n207.eval; unfold At at e207; simp [go_sem, e205, e207]) (fun a' hI' n208' hk => ?_)
          clear n205
          clear n207
          have n208 := n208'
          replace hI := hI'
          clear hk hI' n208'
          obtain ⟨aa, rfl⟩ : ∃ x, x = a' := ⟨_, rfl⟩
          refine heldA_take (k := 96) (d := 209) (v := .bool false) hI rfl rfl (by kernel_rfl) (Nat.lt_of_le_of_lt (by decide) hsz) (wanted_free rfl) (fun z hz => by have e208 := n208; have f208 := n208.eval; unfold At at e208; simp [go_sem, e208]) (fun a' hI' n209' hk => ?_)
          clear n208
          have n209 := n209'
          replace hI := hI'
          clear hk hI' n209'
          obtain ⟨aa, rfl⟩ : ∃ x, x = a' := ⟨_, rfl⟩
          refine heldA_take (k := 97) (d := 210) (v := .int .i64 115) hI rfl rfl (by kernel_rfl) (Nat.lt_of_le_of_lt (by decide) hsz) (wanted_at (d := 209) rfl (by kernel_rfl) n209) (fun z hz => by have n23 := hI.at m23 (by kernel_rfl); have e23 := n23; have f23 := n23.eval; unfold At at e23; simp [go_sem, e23]) (fun a' hI' n210' hk => ?_)
          replace n209 := hk _ _ n209 rfl
          have n210 := n210'
          replace hI := hI'
          clear hk hI' n210'
          obtain ⟨aa, rfl⟩ : ∃ x, x = a' := ⟨_, rfl⟩
          refine heldA_take (k := 98) (d := 211) (v := .bool false) hI rfl rfl (by kernel_rfl) (Nat.lt_of_le_of_lt (by decide) hsz) (wanted_at (d := 209) rfl (by kernel_rfl) n209) (fun z hz => by have e210 := n210; have f210 := n210.eval; unfold At at e210; simp [go_sem, e210]) (fun a' hI' n211' hk => ?_)
          replace n209 := hk _ _ n209 rfl
          clear n210
          have n211 := n211'
          replace hI := hI'
          clear hk hI' n211'
          obtain ⟨aa, rfl⟩ : ∃ x, x = a' := ⟨_, rfl⟩
          refine heldA_take (k := 99) (d := 212) (v := .bool false) hI rfl rfl (by kernel_rfl) (Nat.lt_of_le_of_lt (by decide) hsz) (wanted_free rfl) (fun z hz => by have e209 := n209; have f209 := n209.eval; unfold At at e209; have e211 := n211; have f211 := n211.eval; unfold At at e211; simp [go_sem, e209, e211]) (fun a' hI' n212' hk => ?_)
          clear n209
          clear n211
          have n212 := n212'
          replace hI := hI'
          clear hk hI' n212'
          obtain ⟨aa, rfl⟩ : ∃ x, x = a' := ⟨_, rfl⟩
          refine heldW_done ?_
          exact hfin _ _ hI n212 hq
      case rest =>
        obtain ⟨w50, rfl⟩ : ∃ x, x = wc := ⟨_, rfl⟩
        obtain ⟨rfl, hb⟩ := hcut
        replace HC := Lib.hid (heap_lift HC.out hb)
        replace HF := Lib.hid (heap_lift HF.out hb)
        replace HM := Lib.hid (heap_lift HM.out hb)
        replace HR := Lib.hid (heap_lift HR.out hb)
        replace HA := Lib.hid (heap_lift HA.out hb)
        replace HQ := Lib.hid (heap_lift HQ.out hb)
        replace H5 := Lib.hid (H5.out.below hb)
        replace H9 := Lib.hid (H9.out.below hb)
        replace HV := Lib.hid (HV.out.below hb)
        replace HB := Lib.hid (below_then HB.out hb)
        clear hb
        go_wp2_with fail
        refine (drawn_any _ _ _).mono ?_
        rintro e w51 ⟨rfl, hb⟩
        replace HC := Lib.hid (heap_lift HC.out hb)
        replace HF := Lib.hid (heap_lift HF.out hb)
        replace HM := Lib.hid (heap_lift HM.out hb)
        replace HR := Lib.hid (heap_lift HR.out hb)
        replace HA := Lib.hid (heap_lift HA.out hb)
        replace HQ := Lib.hid (heap_lift HQ.out hb)
        replace H5 := Lib.hid (H5.out.below hb)
        replace H9 := Lib.hid (H9.out.below hb)
        replace HV := Lib.hid (HV.out.below hb)
        replace HB := Lib.hid (below_then HB.out hb)
        clear hb
        go_wp2_with fail
        refine (drawn_any _ _ _).mono ?_
        rintro e w52 ⟨rfl, hb⟩
        replace HC := Lib.hid (heap_lift HC.out hb)
        replace HF := Lib.hid (heap_lift HF.out hb)
        replace HM := Lib.hid (heap_lift HM.out hb)
        replace HR := Lib.hid (heap_lift HR.out hb)
        replace HA := Lib.hid (heap_lift HA.out hb)
        replace HQ := Lib.hid (heap_lift HQ.out hb)
        replace H5 := Lib.hid (H5.out.below hb)
        replace H9 := Lib.hid (H9.out.below hb)
        replace HV := Lib.hid (HV.out.below hb)
        replace HB := Lib.hid (below_then HB.out hb)
        clear hb
        go_wp2_with fail
        refine (drawn_any _ _ _).mono ?_
        rintro e w53 ⟨rfl, hb⟩
        replace HC := Lib.hid (heap_lift HC.out hb)
        replace HF := Lib.hid (heap_lift HF.out hb)
        replace HM := Lib.hid (heap_lift HM.out hb)
        replace HR := Lib.hid (heap_lift HR.out hb)
        replace HA := Lib.hid (heap_lift HA.out hb)
        replace HQ := Lib.hid (heap_lift HQ.out hb)
        replace H5 := Lib.hid (H5.out.below hb)
        replace H9 := Lib.hid (H9.out.below hb)
        replace HV := Lib.hid (HV.out.below hb)
        replace HB := Lib.hid (below_then HB.out hb)
        clear hb
        go_wp2_with fail
        refine (drawn_any _ _ _).mono ?_
        rintro e w54 ⟨rfl, hb⟩
        replace HC := Lib.hid (heap_lift HC.out hb)
        replace HF := Lib.hid (heap_lift HF.out hb)
        replace HM := Lib.hid (heap_lift HM.out hb)
        replace HR := Lib.hid (heap_lift HR.out hb)
        replace HA := Lib.hid (heap_lift HA.out hb)
        replace HQ := Lib.hid (heap_lift HQ.out hb)
        replace H5 := Lib.hid (H5.out.below hb)
        replace H9 := Lib.hid (H9.out.below hb)
        replace HV := Lib.hid (HV.out.below hb)
        replace HB := Lib.hid (below_then HB.out hb)
        clear hb
        go_wp2_with fail
        obtain ⟨w55, hW⟩ : ∃ W, w54.alloc (.cells #[.int .i64 3, .int .i64 1, .int .i64 10, .int .i64 1, .int .i64 20, .int .i64 1, .int .i64 3, .int .i64 0] 37) = W := ⟨_, rfl⟩
        have hb : Below w54.heap.size w54 w55 := by rw [← hW]; exact (Below.refl _ _).alloc (Nat.le_refl _) _
        have HD : Hid (w55.heap[w54.heap.size]? = some (.cells #[.int .i64 3, .int .i64 1, .int .i64 10, .int .i64 1, .int .i64 20, .int .i64 1, .int .i64 3, .int .i64 0] 37)) := Lib.hid (by rw [← hW]; exact heap_top _ _ rfl)
        rw [hW]
        clear hW
        replace HC := Lib.hid (heap_lift HC.out hb)
        replace HF := Lib.hid (heap_lift HF.out hb)
        replace HM := Lib.hid (heap_lift HM.out hb)
        replace HR := Lib.hid (heap_lift HR.out hb)
        replace HA := Lib.hid (heap_lift HA.out hb)
        replace HQ := Lib.hid (heap_lift HQ.out hb)
        replace H5 := Lib.hid (H5.out.below hb)
        replace H9 := Lib.hid (H9.out.below hb)
        replace HV := Lib.hid (HV.out.below hb)
        replace HB := Lib.hid (below_then HB.out hb)
        clear hb
        go_loopw [219] (fun i wr => ∃ k : Int, (k = 0 ∨ k = 1 ∨ k = 2 ∨ k = 3 ∨ k = 4) ∧ i = .int .i64 k ∧ Below w55.heap.size w55 wr) (fun i _ => 4 - (intOf i).toNat)
        case atStart => exact ⟨0, .inl rfl, rfl, Below.refl _ _⟩
        case round =>
          obtain ⟨k, hk, rfl, hb⟩ := hrel
          replace HC := Lib.hid (heap_lift HC.out hb)
          replace HF := Lib.hid (heap_lift HF.out hb)
          replace HM := Lib.hid (heap_lift HM.out hb)
          replace HR := Lib.hid (heap_lift HR.out hb)
          replace HA := Lib.hid (heap_lift HA.out hb)
          replace HQ := Lib.hid (heap_lift HQ.out hb)
          replace HD := Lib.hid (heap_lift HD.out hb)
          replace H5 := Lib.hid (H5.out.below hb)
          replace H9 := Lib.hid (H9.out.below hb)
          replace HV := Lib.hid (HV.out.below hb)
          replace HB := Lib.hid (below_then HB.out hb)
          have HBL := Lib.hid hb
          clear hb
          rcases hk with rfl | rfl | rfl | rfl | rfl
          · have d0 := heap_cell HD.out (j := 0) rfl
            have d1 := heap_cell HD.out (j := 1) rfl
            go_wp2_with fail
            clear d0 d1
            obtain ⟨w56, hW⟩ : ∃ W, wr.alloc (.cells #[.int .i64 3, .int .i64 1] 37) = W := ⟨_, rfl⟩
            have hb : Below wr.heap.size wr w56 := by rw [← hW]; exact (Below.refl _ _).alloc (Nat.le_refl _) _
            have HX : Hid (w56.heap[wr.heap.size]? = some (.cells #[.int .i64 3, .int .i64 1] 37)) := Lib.hid (by rw [← hW]; exact heap_top _ _ rfl)
            rw [hW]
            clear hW
            replace HC := Lib.hid (heap_lift HC.out hb)
            replace HF := Lib.hid (heap_lift HF.out hb)
            replace HM := Lib.hid (heap_lift HM.out hb)
            replace HR := Lib.hid (heap_lift HR.out hb)
            replace HA := Lib.hid (heap_lift HA.out hb)
            replace HQ := Lib.hid (heap_lift HQ.out hb)
            replace HD := Lib.hid (heap_lift HD.out hb)
            replace H5 := Lib.hid (H5.out.below hb)
            replace H9 := Lib.hid (H9.out.below hb)
            replace HV := Lib.hid (HV.out.below hb)
            replace HB := Lib.hid (below_then HB.out hb)
            replace HBL := Lib.hid (below_then HBL.out hb)
            clear hb
            refine wp_region_held (S := fun z => z.heap[wr.heap.size]? = some (.cells #[.int .i64 3, .int .i64 1] 37)) (by kernel_rfl) ?_
            obtain ⟨wz, hwz⟩ : ∃ x, w56.drew = x := ⟨_, rfl⟩
            change wpAnyH _ _ _ _ _ _ _ _ (w56.drew)
            rw [hwz]
            have hq : Below w56.heap.size w56 wz := by rw [← hwz]; exact (Below.refl _ _).drew
            have HS : Hid (wz.heap[wr.heap.size]? = some (.cells #[.int .i64 3, .int .i64 1] 37)) := Lib.hid (heap_lift HX.out hq)
            clear hwz
            refine held_take (i := 1) (d := some 226) (v := .agg #[.int .i64 3, .int .i64 1]) rfl rfl (by kernel_rfl) (by kernel_rfl) (by kernel_rfl) (fun _ _ _ h => h) (Or.inl ⟨by rfl, fun z hz => by (have k0 := heap_cell hz (j := 0) rfl; have k1 := heap_cell hz (j := 1) rfl; go_simp)⟩) HS.out ?_
            simp only [Act.put, List.setIfInBounds_toArray, List.set_cons_zero, List.set_cons_succ]
            refine wpAnyH_all (rs := [0]) (by kernel_rfl) (by simp) (fun i hi => ?_)
            obtain rfl : i = 0 := by simpa using hi
            clear hi
            refine wpOp_step rfl (fun K hK => ?_)
            go_simp
            with_reducible refine (terms_any _).mono ?_
            rintro e w57 ⟨a3, cap3, rfl, ht, hb⟩
            replace hq := below_then hq hb
            have HT := Lib.hid ht
            clear ht
            clear hb
            dsimp only
            refine hK _ _ (held_and (heap_lift HX.out hq) (fun hs => ?_))
            clear hK K
            replace HS := Lib.hid hs
            clear hs
            refine wpAnyH_all (rs := [2]) (by kernel_rfl) (by simp) (fun i hi => ?_)
            obtain rfl : i = 2 := by simpa using hi
            clear hi
            refine wpOp_step rfl (fun K hK => ?_)
            go_simp
            with_reducible refine (exOff0 a3 cap3 _ HT.out).mono ?_
            rintro e w58 ⟨rfl, hb⟩
            replace hq := below_then hq hb
            clear hb
            dsimp only
            refine hK _ _ (held_and (heap_lift HX.out hq) (fun hs => ?_))
            clear hK K
            replace HS := Lib.hid hs
            clear hs
            refine held_take (i := 3) (d := some 224) (v := .tuple #[.int .i64 1000, .int .i64 0]) rfl rfl (by kernel_rfl) (by kernel_rfl) (by kernel_rfl) (fun _ _ _ h => h) (Or.inl ⟨by rfl, fun z hz => by (go_simp)⟩) HS.out ?_
            simp only [Act.put, List.setIfInBounds_toArray, List.set_cons_zero, List.set_cons_succ]
            refine held_take (i := 4) (d := some 228) (v := .int .i64 1000) rfl rfl (by kernel_rfl) (by kernel_rfl) (by kernel_rfl) (fun _ _ _ h => h) (Or.inl ⟨by rfl, fun z hz => by (go_simp)⟩) HS.out ?_
            simp only [Act.put, List.setIfInBounds_toArray, List.set_cons_zero, List.set_cons_succ]
            refine held_take (i := 5) (d := some 229) (v := .int .i64 0) rfl rfl (by kernel_rfl) (by kernel_rfl) (by kernel_rfl) (fun _ _ _ h => h) (Or.inl ⟨by rfl, fun z hz => by (go_simp)⟩) HS.out ?_
            simp only [Act.put, List.setIfInBounds_toArray, List.set_cons_zero, List.set_cons_succ]
            refine held_take (i := 6) (d := some 27) (v := .int .i64 1000) rfl rfl (by kernel_rfl) (by kernel_rfl) (by kernel_rfl) (fun _ _ _ h => h) (Or.inl ⟨by rfl, fun z hz => by (go_simp)⟩) HS.out ?_
            simp only [Act.put, List.setIfInBounds_toArray, List.set_cons_zero, List.set_cons_succ]
            refine held_take (i := 7) (d := some 28) (v := .int .i64 0) rfl rfl (by kernel_rfl) (by kernel_rfl) (by kernel_rfl) (fun _ _ _ h => h) (Or.inl ⟨by rfl, fun z hz => by (go_simp)⟩) HS.out ?_
            simp only [Act.put, List.setIfInBounds_toArray, List.set_cons_zero, List.set_cons_succ]
            refine wpAnyH_done (by kernel_rfl) ?_ _
            skip
            replace HC := Lib.hid (heap_lift HC.out hq)
            replace HF := Lib.hid (heap_lift HF.out hq)
            replace HM := Lib.hid (heap_lift HM.out hq)
            replace HR := Lib.hid (heap_lift HR.out hq)
            replace HA := Lib.hid (heap_lift HA.out hq)
            replace HQ := Lib.hid (heap_lift HQ.out hq)
            replace HD := Lib.hid (heap_lift HD.out hq)
            replace HX := Lib.hid (heap_lift HX.out hq)
            replace H5 := Lib.hid (H5.out.below hq)
            replace H9 := Lib.hid (H9.out.below hq)
            replace HV := Lib.hid (HV.out.below hq)
            replace HB := Lib.hid (below_then HB.out hq)
            replace HBL := Lib.hid (below_then HBL.out hq)
            clear hq HS
            go_wp2_with fail
            go_roundw
            case rel => exact ⟨1, by decide, rfl, HBL.out.alloc HBL.out.size _⟩
            case measure => simp [intOf]
          · have d0 := heap_cell HD.out (j := 2) rfl
            have d1 := heap_cell HD.out (j := 3) rfl
            go_wp2_with fail
            clear d0 d1
            obtain ⟨w59, hW⟩ : ∃ W, wr.alloc (.cells #[.int .i64 10, .int .i64 1] 37) = W := ⟨_, rfl⟩
            have hb : Below wr.heap.size wr w59 := by rw [← hW]; exact (Below.refl _ _).alloc (Nat.le_refl _) _
            have HX : Hid (w59.heap[wr.heap.size]? = some (.cells #[.int .i64 10, .int .i64 1] 37)) := Lib.hid (by rw [← hW]; exact heap_top _ _ rfl)
            rw [hW]
            clear hW
            replace HC := Lib.hid (heap_lift HC.out hb)
            replace HF := Lib.hid (heap_lift HF.out hb)
            replace HM := Lib.hid (heap_lift HM.out hb)
            replace HR := Lib.hid (heap_lift HR.out hb)
            replace HA := Lib.hid (heap_lift HA.out hb)
            replace HQ := Lib.hid (heap_lift HQ.out hb)
            replace HD := Lib.hid (heap_lift HD.out hb)
            replace H5 := Lib.hid (H5.out.below hb)
            replace H9 := Lib.hid (H9.out.below hb)
            replace HV := Lib.hid (HV.out.below hb)
            replace HB := Lib.hid (below_then HB.out hb)
            replace HBL := Lib.hid (below_then HBL.out hb)
            clear hb
            refine wp_region_held (S := fun z => z.heap[wr.heap.size]? = some (.cells #[.int .i64 10, .int .i64 1] 37)) (by kernel_rfl) ?_
            obtain ⟨wz, hwz⟩ : ∃ x, w59.drew = x := ⟨_, rfl⟩
            change wpAnyH _ _ _ _ _ _ _ _ (w59.drew)
            rw [hwz]
            have hq : Below w59.heap.size w59 wz := by rw [← hwz]; exact (Below.refl _ _).drew
            have HS : Hid (wz.heap[wr.heap.size]? = some (.cells #[.int .i64 10, .int .i64 1] 37)) := Lib.hid (heap_lift HX.out hq)
            clear hwz
            refine held_take (i := 1) (d := some 226) (v := .agg #[.int .i64 10, .int .i64 1]) rfl rfl (by kernel_rfl) (by kernel_rfl) (by kernel_rfl) (fun _ _ _ h => h) (Or.inl ⟨by rfl, fun z hz => by (have k0 := heap_cell hz (j := 0) rfl; have k1 := heap_cell hz (j := 1) rfl; go_simp)⟩) HS.out ?_
            simp only [Act.put, List.setIfInBounds_toArray, List.set_cons_zero, List.set_cons_succ]
            refine wpAnyH_all (rs := [0]) (by kernel_rfl) (by simp) (fun i hi => ?_)
            obtain rfl : i = 0 := by simpa using hi
            clear hi
            refine wpOp_step rfl (fun K hK => ?_)
            go_simp
            with_reducible refine (terms_any _).mono ?_
            rintro e w60 ⟨a3, cap3, rfl, ht, hb⟩
            replace hq := below_then hq hb
            have HT := Lib.hid ht
            clear ht
            clear hb
            dsimp only
            refine hK _ _ (held_and (heap_lift HX.out hq) (fun hs => ?_))
            clear hK K
            replace HS := Lib.hid hs
            clear hs
            refine wpAnyH_all (rs := [2]) (by kernel_rfl) (by simp) (fun i hi => ?_)
            obtain rfl : i = 2 := by simpa using hi
            clear hi
            refine wpOp_step rfl (fun K hK => ?_)
            go_simp
            with_reducible refine (exOff1 a3 cap3 _ HT.out).mono ?_
            rintro e w61 ⟨rfl, hb⟩
            replace hq := below_then hq hb
            clear hb
            dsimp only
            refine hK _ _ (held_and (heap_lift HX.out hq) (fun hs => ?_))
            clear hK K
            replace HS := Lib.hid hs
            clear hs
            refine held_take (i := 3) (d := some 224) (v := .tuple #[.int .i64 300, .int .i64 0]) rfl rfl (by kernel_rfl) (by kernel_rfl) (by kernel_rfl) (fun _ _ _ h => h) (Or.inl ⟨by rfl, fun z hz => by (go_simp)⟩) HS.out ?_
            simp only [Act.put, List.setIfInBounds_toArray, List.set_cons_zero, List.set_cons_succ]
            refine held_take (i := 4) (d := some 228) (v := .int .i64 300) rfl rfl (by kernel_rfl) (by kernel_rfl) (by kernel_rfl) (fun _ _ _ h => h) (Or.inl ⟨by rfl, fun z hz => by (go_simp)⟩) HS.out ?_
            simp only [Act.put, List.setIfInBounds_toArray, List.set_cons_zero, List.set_cons_succ]
            refine held_take (i := 5) (d := some 229) (v := .int .i64 0) rfl rfl (by kernel_rfl) (by kernel_rfl) (by kernel_rfl) (fun _ _ _ h => h) (Or.inl ⟨by rfl, fun z hz => by (go_simp)⟩) HS.out ?_
            simp only [Act.put, List.setIfInBounds_toArray, List.set_cons_zero, List.set_cons_succ]
            refine held_take (i := 6) (d := some 27) (v := .int .i64 300) rfl rfl (by kernel_rfl) (by kernel_rfl) (by kernel_rfl) (fun _ _ _ h => h) (Or.inl ⟨by rfl, fun z hz => by (go_simp)⟩) HS.out ?_
            simp only [Act.put, List.setIfInBounds_toArray, List.set_cons_zero, List.set_cons_succ]
            refine held_take (i := 7) (d := some 28) (v := .int .i64 0) rfl rfl (by kernel_rfl) (by kernel_rfl) (by kernel_rfl) (fun _ _ _ h => h) (Or.inl ⟨by rfl, fun z hz => by (go_simp)⟩) HS.out ?_
            simp only [Act.put, List.setIfInBounds_toArray, List.set_cons_zero, List.set_cons_succ]
            refine wpAnyH_done (by kernel_rfl) ?_ _
            skip
            replace HC := Lib.hid (heap_lift HC.out hq)
            replace HF := Lib.hid (heap_lift HF.out hq)
            replace HM := Lib.hid (heap_lift HM.out hq)
            replace HR := Lib.hid (heap_lift HR.out hq)
            replace HA := Lib.hid (heap_lift HA.out hq)
            replace HQ := Lib.hid (heap_lift HQ.out hq)
            replace HD := Lib.hid (heap_lift HD.out hq)
            replace HX := Lib.hid (heap_lift HX.out hq)
            replace H5 := Lib.hid (H5.out.below hq)
            replace H9 := Lib.hid (H9.out.below hq)
            replace HV := Lib.hid (HV.out.below hq)
            replace HB := Lib.hid (below_then HB.out hq)
            replace HBL := Lib.hid (below_then HBL.out hq)
            clear hq HS
            go_wp2_with fail
            go_roundw
            case rel => exact ⟨2, by decide, rfl, HBL.out.alloc HBL.out.size _⟩
            case measure => simp [intOf]
          · have d0 := heap_cell HD.out (j := 4) rfl
            have d1 := heap_cell HD.out (j := 5) rfl
            go_wp2_with fail
            clear d0 d1
            obtain ⟨w62, hW⟩ : ∃ W, wr.alloc (.cells #[.int .i64 20, .int .i64 1] 37) = W := ⟨_, rfl⟩
            have hb : Below wr.heap.size wr w62 := by rw [← hW]; exact (Below.refl _ _).alloc (Nat.le_refl _) _
            have HX : Hid (w62.heap[wr.heap.size]? = some (.cells #[.int .i64 20, .int .i64 1] 37)) := Lib.hid (by rw [← hW]; exact heap_top _ _ rfl)
            rw [hW]
            clear hW
            replace HC := Lib.hid (heap_lift HC.out hb)
            replace HF := Lib.hid (heap_lift HF.out hb)
            replace HM := Lib.hid (heap_lift HM.out hb)
            replace HR := Lib.hid (heap_lift HR.out hb)
            replace HA := Lib.hid (heap_lift HA.out hb)
            replace HQ := Lib.hid (heap_lift HQ.out hb)
            replace HD := Lib.hid (heap_lift HD.out hb)
            replace H5 := Lib.hid (H5.out.below hb)
            replace H9 := Lib.hid (H9.out.below hb)
            replace HV := Lib.hid (HV.out.below hb)
            replace HB := Lib.hid (below_then HB.out hb)
            replace HBL := Lib.hid (below_then HBL.out hb)
            clear hb
            refine wp_region_held (S := fun z => z.heap[wr.heap.size]? = some (.cells #[.int .i64 20, .int .i64 1] 37)) (by kernel_rfl) ?_
            obtain ⟨wz, hwz⟩ : ∃ x, w62.drew = x := ⟨_, rfl⟩
            change wpAnyH _ _ _ _ _ _ _ _ (w62.drew)
            rw [hwz]
            have hq : Below w62.heap.size w62 wz := by rw [← hwz]; exact (Below.refl _ _).drew
            have HS : Hid (wz.heap[wr.heap.size]? = some (.cells #[.int .i64 20, .int .i64 1] 37)) := Lib.hid (heap_lift HX.out hq)
            clear hwz
            refine held_take (i := 1) (d := some 226) (v := .agg #[.int .i64 20, .int .i64 1]) rfl rfl (by kernel_rfl) (by kernel_rfl) (by kernel_rfl) (fun _ _ _ h => h) (Or.inl ⟨by rfl, fun z hz => by (have k0 := heap_cell hz (j := 0) rfl; have k1 := heap_cell hz (j := 1) rfl; go_simp)⟩) HS.out ?_
            simp only [Act.put, List.setIfInBounds_toArray, List.set_cons_zero, List.set_cons_succ]
            refine wpAnyH_all (rs := [0]) (by kernel_rfl) (by simp) (fun i hi => ?_)
            obtain rfl : i = 0 := by simpa using hi
            clear hi
            refine wpOp_step rfl (fun K hK => ?_)
            go_simp
            with_reducible refine (terms_any _).mono ?_
            rintro e w63 ⟨a3, cap3, rfl, ht, hb⟩
            replace hq := below_then hq hb
            have HT := Lib.hid ht
            clear ht
            clear hb
            dsimp only
            refine hK _ _ (held_and (heap_lift HX.out hq) (fun hs => ?_))
            clear hK K
            replace HS := Lib.hid hs
            clear hs
            refine wpAnyH_all (rs := [2]) (by kernel_rfl) (by simp) (fun i hi => ?_)
            obtain rfl : i = 2 := by simpa using hi
            clear hi
            refine wpOp_step rfl (fun K hK => ?_)
            go_simp
            with_reducible refine (exOff2 a3 cap3 _ HT.out).mono ?_
            rintro e w64 ⟨rfl, hb⟩
            replace hq := below_then hq hb
            clear hb
            dsimp only
            refine hK _ _ (held_and (heap_lift HX.out hq) (fun hs => ?_))
            clear hK K
            replace HS := Lib.hid hs
            clear hs
            refine held_take (i := 3) (d := some 224) (v := .tuple #[.int .i64 100, .int .i64 0]) rfl rfl (by kernel_rfl) (by kernel_rfl) (by kernel_rfl) (fun _ _ _ h => h) (Or.inl ⟨by rfl, fun z hz => by (go_simp)⟩) HS.out ?_
            simp only [Act.put, List.setIfInBounds_toArray, List.set_cons_zero, List.set_cons_succ]
            refine held_take (i := 4) (d := some 228) (v := .int .i64 100) rfl rfl (by kernel_rfl) (by kernel_rfl) (by kernel_rfl) (fun _ _ _ h => h) (Or.inl ⟨by rfl, fun z hz => by (go_simp)⟩) HS.out ?_
            simp only [Act.put, List.setIfInBounds_toArray, List.set_cons_zero, List.set_cons_succ]
            refine held_take (i := 5) (d := some 229) (v := .int .i64 0) rfl rfl (by kernel_rfl) (by kernel_rfl) (by kernel_rfl) (fun _ _ _ h => h) (Or.inl ⟨by rfl, fun z hz => by (go_simp)⟩) HS.out ?_
            simp only [Act.put, List.setIfInBounds_toArray, List.set_cons_zero, List.set_cons_succ]
            refine held_take (i := 6) (d := some 27) (v := .int .i64 100) rfl rfl (by kernel_rfl) (by kernel_rfl) (by kernel_rfl) (fun _ _ _ h => h) (Or.inl ⟨by rfl, fun z hz => by (go_simp)⟩) HS.out ?_
            simp only [Act.put, List.setIfInBounds_toArray, List.set_cons_zero, List.set_cons_succ]
            refine held_take (i := 7) (d := some 28) (v := .int .i64 0) rfl rfl (by kernel_rfl) (by kernel_rfl) (by kernel_rfl) (fun _ _ _ h => h) (Or.inl ⟨by rfl, fun z hz => by (go_simp)⟩) HS.out ?_
            simp only [Act.put, List.setIfInBounds_toArray, List.set_cons_zero, List.set_cons_succ]
            refine wpAnyH_done (by kernel_rfl) ?_ _
            skip
            replace HC := Lib.hid (heap_lift HC.out hq)
            replace HF := Lib.hid (heap_lift HF.out hq)
            replace HM := Lib.hid (heap_lift HM.out hq)
            replace HR := Lib.hid (heap_lift HR.out hq)
            replace HA := Lib.hid (heap_lift HA.out hq)
            replace HQ := Lib.hid (heap_lift HQ.out hq)
            replace HD := Lib.hid (heap_lift HD.out hq)
            replace HX := Lib.hid (heap_lift HX.out hq)
            replace H5 := Lib.hid (H5.out.below hq)
            replace H9 := Lib.hid (H9.out.below hq)
            replace HV := Lib.hid (HV.out.below hq)
            replace HB := Lib.hid (below_then HB.out hq)
            replace HBL := Lib.hid (below_then HBL.out hq)
            clear hq HS
            go_wp2_with fail
            go_roundw
            case rel => exact ⟨3, by decide, rfl, HBL.out.alloc HBL.out.size _⟩
            case measure => simp [intOf]
          · have d0 := heap_cell HD.out (j := 6) rfl
            have d1 := heap_cell HD.out (j := 7) rfl
            go_wp2_with fail
            clear d0 d1
            obtain ⟨w65, hW⟩ : ∃ W, wr.alloc (.cells #[.int .i64 3, .int .i64 0] 37) = W := ⟨_, rfl⟩
            have hb : Below wr.heap.size wr w65 := by rw [← hW]; exact (Below.refl _ _).alloc (Nat.le_refl _) _
            have HX : Hid (w65.heap[wr.heap.size]? = some (.cells #[.int .i64 3, .int .i64 0] 37)) := Lib.hid (by rw [← hW]; exact heap_top _ _ rfl)
            rw [hW]
            clear hW
            replace HC := Lib.hid (heap_lift HC.out hb)
            replace HF := Lib.hid (heap_lift HF.out hb)
            replace HM := Lib.hid (heap_lift HM.out hb)
            replace HR := Lib.hid (heap_lift HR.out hb)
            replace HA := Lib.hid (heap_lift HA.out hb)
            replace HQ := Lib.hid (heap_lift HQ.out hb)
            replace HD := Lib.hid (heap_lift HD.out hb)
            replace H5 := Lib.hid (H5.out.below hb)
            replace H9 := Lib.hid (H9.out.below hb)
            replace HV := Lib.hid (HV.out.below hb)
            replace HB := Lib.hid (below_then HB.out hb)
            replace HBL := Lib.hid (below_then HBL.out hb)
            clear hb
            refine wp_region_held (S := fun z => z.heap[wr.heap.size]? = some (.cells #[.int .i64 3, .int .i64 0] 37)) (by kernel_rfl) ?_
            obtain ⟨wz, hwz⟩ : ∃ x, w65.drew = x := ⟨_, rfl⟩
            change wpAnyH _ _ _ _ _ _ _ _ (w65.drew)
            rw [hwz]
            have hq : Below w65.heap.size w65 wz := by rw [← hwz]; exact (Below.refl _ _).drew
            have HS : Hid (wz.heap[wr.heap.size]? = some (.cells #[.int .i64 3, .int .i64 0] 37)) := Lib.hid (heap_lift HX.out hq)
            clear hwz
            refine held_take (i := 1) (d := some 226) (v := .agg #[.int .i64 3, .int .i64 0]) rfl rfl (by kernel_rfl) (by kernel_rfl) (by kernel_rfl) (fun _ _ _ h => h) (Or.inl ⟨by rfl, fun z hz => by (have k0 := heap_cell hz (j := 0) rfl; have k1 := heap_cell hz (j := 1) rfl; go_simp)⟩) HS.out ?_
            simp only [Act.put, List.setIfInBounds_toArray, List.set_cons_zero, List.set_cons_succ]
            refine wpAnyH_all (rs := [0]) (by kernel_rfl) (by simp) (fun i hi => ?_)
            obtain rfl : i = 0 := by simpa using hi
            clear hi
            refine wpOp_step rfl (fun K hK => ?_)
            go_simp
            with_reducible refine (terms_any _).mono ?_
            rintro e w66 ⟨a3, cap3, rfl, ht, hb⟩
            replace hq := below_then hq hb
            have HT := Lib.hid ht
            clear ht
            clear hb
            dsimp only
            refine hK _ _ (held_and (heap_lift HX.out hq) (fun hs => ?_))
            clear hK K
            replace HS := Lib.hid hs
            clear hs
            refine wpAnyH_all (rs := [2]) (by kernel_rfl) (by simp) (fun i hi => ?_)
            obtain rfl : i = 2 := by simpa using hi
            clear hi
            refine wpOp_step rfl (fun K hK => ?_)
            go_simp
            with_reducible refine (exOff3 a3 cap3 _ HT.out).mono ?_
            rintro e w67 ⟨rfl, hb⟩
            replace hq := below_then hq hb
            clear hb
            dsimp only
            refine hK _ _ (held_and (heap_lift HX.out hq) (fun hs => ?_))
            clear hK K
            replace HS := Lib.hid hs
            clear hs
            refine held_take (i := 3) (d := some 224) (v := .tuple #[.int .i64 0, .int .i64 0]) rfl rfl (by kernel_rfl) (by kernel_rfl) (by kernel_rfl) (fun _ _ _ h => h) (Or.inl ⟨by rfl, fun z hz => by (go_simp)⟩) HS.out ?_
            simp only [Act.put, List.setIfInBounds_toArray, List.set_cons_zero, List.set_cons_succ]
            refine held_take (i := 4) (d := some 228) (v := .int .i64 0) rfl rfl (by kernel_rfl) (by kernel_rfl) (by kernel_rfl) (fun _ _ _ h => h) (Or.inl ⟨by rfl, fun z hz => by (go_simp)⟩) HS.out ?_
            simp only [Act.put, List.setIfInBounds_toArray, List.set_cons_zero, List.set_cons_succ]
            refine held_take (i := 5) (d := some 229) (v := .int .i64 0) rfl rfl (by kernel_rfl) (by kernel_rfl) (by kernel_rfl) (fun _ _ _ h => h) (Or.inl ⟨by rfl, fun z hz => by (go_simp)⟩) HS.out ?_
            simp only [Act.put, List.setIfInBounds_toArray, List.set_cons_zero, List.set_cons_succ]
            refine held_take (i := 6) (d := some 27) (v := .int .i64 0) rfl rfl (by kernel_rfl) (by kernel_rfl) (by kernel_rfl) (fun _ _ _ h => h) (Or.inl ⟨by rfl, fun z hz => by (go_simp)⟩) HS.out ?_
            simp only [Act.put, List.setIfInBounds_toArray, List.set_cons_zero, List.set_cons_succ]
            refine held_take (i := 7) (d := some 28) (v := .int .i64 0) rfl rfl (by kernel_rfl) (by kernel_rfl) (by kernel_rfl) (fun _ _ _ h => h) (Or.inl ⟨by rfl, fun z hz => by (go_simp)⟩) HS.out ?_
            simp only [Act.put, List.setIfInBounds_toArray, List.set_cons_zero, List.set_cons_succ]
            refine wpAnyH_done (by kernel_rfl) ?_ _
            skip
            replace HC := Lib.hid (heap_lift HC.out hq)
            replace HF := Lib.hid (heap_lift HF.out hq)
            replace HM := Lib.hid (heap_lift HM.out hq)
            replace HR := Lib.hid (heap_lift HR.out hq)
            replace HA := Lib.hid (heap_lift HA.out hq)
            replace HQ := Lib.hid (heap_lift HQ.out hq)
            replace HD := Lib.hid (heap_lift HD.out hq)
            replace HX := Lib.hid (heap_lift HX.out hq)
            replace H5 := Lib.hid (H5.out.below hq)
            replace H9 := Lib.hid (H9.out.below hq)
            replace HV := Lib.hid (HV.out.below hq)
            replace HB := Lib.hid (below_then HB.out hq)
            replace HBL := Lib.hid (below_then HBL.out hq)
            clear hq HS
            go_wp2_with fail
            go_roundw
            case rel => exact ⟨4, by decide, rfl, HBL.out.alloc HBL.out.size _⟩
            case measure => simp [intOf]
          · have cHF0 := heap_cell HF.out (j := 0) rfl
            have cHF1 := heap_cell HF.out (j := 1) rfl
            have cHF2 := heap_cell HF.out (j := 2) rfl
            go_wp2_with fail
            clear cHF0 cHF1 cHF2
            obtain ⟨w68, hW⟩ : ∃ W, wr.alloc (.cells #[.int .i64 10, .int .i64 4, .int .i64 3] 28) = W := ⟨_, rfl⟩
            have hb : Below wr.heap.size wr w68 := by rw [← hW]; exact (Below.refl _ _).alloc (Nat.le_refl _) _
            have HG : Hid (w68.heap[wr.heap.size]? = some (.cells #[.int .i64 10, .int .i64 4, .int .i64 3] 28)) := Lib.hid (by rw [← hW]; exact heap_top _ _ rfl)
            rw [hW]
            clear hW
            replace HC := Lib.hid (heap_lift HC.out hb)
            replace HF := Lib.hid (heap_lift HF.out hb)
            replace HM := Lib.hid (heap_lift HM.out hb)
            replace HR := Lib.hid (heap_lift HR.out hb)
            replace HA := Lib.hid (heap_lift HA.out hb)
            replace HQ := Lib.hid (heap_lift HQ.out hb)
            replace HD := Lib.hid (heap_lift HD.out hb)
            replace H5 := Lib.hid (H5.out.below hb)
            replace H9 := Lib.hid (H9.out.below hb)
            replace HV := Lib.hid (HV.out.below hb)
            replace HB := Lib.hid (below_then HB.out hb)
            clear hb
            refine (erWays _).mono ?_
            rintro e w69 ⟨rfl, hb⟩
            replace HC := Lib.hid (heap_lift HC.out hb)
            replace HF := Lib.hid (heap_lift HF.out hb)
            replace HM := Lib.hid (heap_lift HM.out hb)
            replace HR := Lib.hid (heap_lift HR.out hb)
            replace HA := Lib.hid (heap_lift HA.out hb)
            replace HQ := Lib.hid (heap_lift HQ.out hb)
            replace HD := Lib.hid (heap_lift HD.out hb)
            replace HG := Lib.hid (heap_lift HG.out hb)
            replace H5 := Lib.hid (H5.out.below hb)
            replace H9 := Lib.hid (H9.out.below hb)
            replace HV := Lib.hid (HV.out.below hb)
            replace HB := Lib.hid (below_then HB.out hb)
            clear hb
            go_wp2_with fail
            refine wp_region_held (S := fun z => z.heap[wr.heap.size]? = some (.cells #[.int .i64 10, .int .i64 4, .int .i64 3] 28)) (by kernel_rfl) ?_
            obtain ⟨wz, hwz⟩ : ∃ x, w69.drew = x := ⟨_, rfl⟩
            change wpAnyH _ _ _ _ _ _ _ _ (w69.drew)
            rw [hwz]
            have hq : Below w69.heap.size w69 wz := by rw [← hwz]; exact (Below.refl _ _).drew
            have HS : Hid (wz.heap[wr.heap.size]? = some (.cells #[.int .i64 10, .int .i64 4, .int .i64 3] 28)) := Lib.hid (heap_lift HG.out hq)
            clear hwz
            skip
            refine held_take (i := 0) (d := some 249) (v := cargoV 10 4 3) rfl rfl (by kernel_rfl) (by kernel_rfl) (by kernel_rfl) (fun _ _ _ h => h) (Or.inl ⟨by rfl, fun z hz => by (have k0 := heap_cell hz (j := 0) rfl; have k1 := heap_cell hz (j := 1) rfl; have k2 := heap_cell hz (j := 2) rfl; go_simp)⟩) HS.out ?_
            simp only [Act.put, List.setIfInBounds_toArray, List.set_cons_zero, List.set_cons_succ]
            refine wpAnyH_all (rs := [1]) (by kernel_rfl) (by simp) (fun i hi => ?_)
            obtain rfl : i = 1 := by simpa using hi
            clear hi
            refine wpOp_step rfl (fun K hK => ?_)
            go_simp
            with_reducible refine (drawn_any 0 1 _).mono ?_
            rintro e w70 ⟨rfl, hb⟩
            replace hq := below_then hq hb
            clear hb
            dsimp only
            refine hK _ _ (held_and (heap_lift HG.out hq) (fun hs => ?_))
            clear hK K
            replace HS := Lib.hid hs
            clear hs
            refine wpAnyH_all (rs := [2]) (by kernel_rfl) (by simp) (fun i hi => ?_)
            obtain rfl : i = 2 := by simpa using hi
            clear hi
            refine wpOp_step rfl (fun K hK => ?_)
            go_simp
            with_reducible refine (erChance1 _).mono ?_
            rintro e w71 ⟨rfl, hb⟩
            replace hq := below_then hq hb
            clear hb
            dsimp only
            refine hK _ _ (held_and (heap_lift HG.out hq) (fun hs => ?_))
            clear hK K
            replace HS := Lib.hid hs
            clear hs
            refine held_take (i := 3) (d := some 248) (v := .tuple #[.agg #[.int .i64 0, .int .i64 0], .int .i64 10]) rfl rfl (by kernel_rfl) (by kernel_rfl) (by kernel_rfl) (fun _ _ _ h => h) (Or.inl ⟨by rfl, fun z hz => by (go_simp)⟩) HS.out ?_
            simp only [Act.put, List.setIfInBounds_toArray, List.set_cons_zero, List.set_cons_succ]
            refine held_take (i := 4) (d := some 252) (v := .agg #[.int .i64 0, .int .i64 0]) rfl rfl (by kernel_rfl) (by kernel_rfl) (by kernel_rfl) (fun _ _ _ h => h) (Or.inl ⟨by rfl, fun z hz => by (go_simp)⟩) HS.out ?_
            simp only [Act.put, List.setIfInBounds_toArray, List.set_cons_zero, List.set_cons_succ]
            refine held_take (i := 5) (d := some 253) (v := .int .i64 10) rfl rfl (by kernel_rfl) (by kernel_rfl) (by kernel_rfl) (fun _ _ _ h => h) (Or.inl ⟨by rfl, fun z hz => by (go_simp)⟩) HS.out ?_
            simp only [Act.put, List.setIfInBounds_toArray, List.set_cons_zero, List.set_cons_succ]
            refine held_take (i := 6) (d := some 6) (v := .int .i64 10) rfl rfl (by kernel_rfl) (by kernel_rfl) (by kernel_rfl) (fun _ _ _ h => h) (Or.inl ⟨by rfl, fun z hz => by (go_simp)⟩) HS.out ?_
            simp only [Act.put, List.setIfInBounds_toArray, List.set_cons_zero, List.set_cons_succ]
            refine wpAnyH_done (by kernel_rfl) ?_ _
            replace HC := Lib.hid (heap_lift HC.out hq)
            replace HF := Lib.hid (heap_lift HF.out hq)
            replace HM := Lib.hid (heap_lift HM.out hq)
            replace HR := Lib.hid (heap_lift HR.out hq)
            replace HA := Lib.hid (heap_lift HA.out hq)
            replace HQ := Lib.hid (heap_lift HQ.out hq)
            replace HD := Lib.hid (heap_lift HD.out hq)
            replace HG := Lib.hid (heap_lift HG.out hq)
            replace H5 := Lib.hid (H5.out.below hq)
            replace H9 := Lib.hid (H9.out.below hq)
            replace HV := Lib.hid (HV.out.below hq)
            replace HB := Lib.hid (below_then HB.out hq)
            clear hq HS
            go_wp2_with fail
            refine wp_region_held (S := fun z => z.heap[Bc]? = some (.cells #[.int .i64 10, .int .i64 0, .int .i64 10] 28)) (by kernel_rfl) ?_
            obtain ⟨wz, hwz⟩ : ∃ x, w71.drew = x := ⟨_, rfl⟩
            change wpAnyH _ _ _ _ _ _ _ _ (w71.drew)
            rw [hwz]
            have hq : Below w71.heap.size w71 wz := by rw [← hwz]; exact (Below.refl _ _).drew
            have HS : Hid (wz.heap[Bc]? = some (.cells #[.int .i64 10, .int .i64 0, .int .i64 10] 28)) := Lib.hid (heap_lift HC.out hq)
            clear hwz
            skip
            refine held_take (i := 0) (d := some 255) (v := cargoV 10 0 10) rfl rfl (by kernel_rfl) (by kernel_rfl) (by kernel_rfl) (fun _ _ _ h => h) (Or.inl ⟨by rfl, fun z hz => by (have k0 := heap_cell hz (j := 0) rfl; have k1 := heap_cell hz (j := 1) rfl; have k2 := heap_cell hz (j := 2) rfl; go_simp)⟩) HS.out ?_
            simp only [Act.put, List.setIfInBounds_toArray, List.set_cons_zero, List.set_cons_succ]
            refine wpAnyH_all (rs := [1]) (by kernel_rfl) (by simp) (fun i hi => ?_)
            obtain rfl : i = 1 := by simpa using hi
            clear hi
            refine wpOp_step rfl (fun K hK => ?_)
            go_simp
            with_reducible refine (drawn_any 0 1 _).mono ?_
            rintro e w72 ⟨rfl, hb⟩
            replace hq := below_then hq hb
            clear hb
            dsimp only
            refine hK _ _ (held_and (heap_lift HC.out hq) (fun hs => ?_))
            clear hK K
            replace HS := Lib.hid hs
            clear hs
            refine wpAnyH_all (rs := [2]) (by kernel_rfl) (by simp) (fun i hi => ?_)
            obtain rfl : i = 2 := by simpa using hi
            clear hi
            refine wpOp_step rfl (fun K hK => ?_)
            go_simp
            with_reducible refine (erChance2 _).mono ?_
            rintro e w73 ⟨rfl, hb⟩
            replace hq := below_then hq hb
            clear hb
            dsimp only
            refine hK _ _ (held_and (heap_lift HC.out hq) (fun hs => ?_))
            clear hK K
            replace HS := Lib.hid hs
            clear hs
            refine held_take (i := 3) (d := some 254) (v := .tuple #[.agg #[.int .i64 0, .int .i64 0], .int .i64 11]) rfl rfl (by kernel_rfl) (by kernel_rfl) (by kernel_rfl) (fun _ _ _ h => h) (Or.inl ⟨by rfl, fun z hz => by (go_simp)⟩) HS.out ?_
            simp only [Act.put, List.setIfInBounds_toArray, List.set_cons_zero, List.set_cons_succ]
            refine held_take (i := 4) (d := some 258) (v := .agg #[.int .i64 0, .int .i64 0]) rfl rfl (by kernel_rfl) (by kernel_rfl) (by kernel_rfl) (fun _ _ _ h => h) (Or.inl ⟨by rfl, fun z hz => by (go_simp)⟩) HS.out ?_
            simp only [Act.put, List.setIfInBounds_toArray, List.set_cons_zero, List.set_cons_succ]
            refine held_take (i := 5) (d := some 259) (v := .int .i64 11) rfl rfl (by kernel_rfl) (by kernel_rfl) (by kernel_rfl) (fun _ _ _ h => h) (Or.inl ⟨by rfl, fun z hz => by (go_simp)⟩) HS.out ?_
            simp only [Act.put, List.setIfInBounds_toArray, List.set_cons_zero, List.set_cons_succ]
            refine held_take (i := 6) (d := some 8) (v := .int .i64 11) rfl rfl (by kernel_rfl) (by kernel_rfl) (by kernel_rfl) (fun _ _ _ h => h) (Or.inl ⟨by rfl, fun z hz => by (go_simp)⟩) HS.out ?_
            simp only [Act.put, List.setIfInBounds_toArray, List.set_cons_zero, List.set_cons_succ]
            refine wpAnyH_done (by kernel_rfl) ?_ _
            replace HC := Lib.hid (heap_lift HC.out hq)
            replace HF := Lib.hid (heap_lift HF.out hq)
            replace HM := Lib.hid (heap_lift HM.out hq)
            replace HR := Lib.hid (heap_lift HR.out hq)
            replace HA := Lib.hid (heap_lift HA.out hq)
            replace HQ := Lib.hid (heap_lift HQ.out hq)
            replace HD := Lib.hid (heap_lift HD.out hq)
            replace HG := Lib.hid (heap_lift HG.out hq)
            replace H5 := Lib.hid (H5.out.below hq)
            replace H9 := Lib.hid (H9.out.below hq)
            replace HV := Lib.hid (HV.out.below hq)
            replace HB := Lib.hid (below_then HB.out hq)
            clear hq HS
            go_wp2_with fail
            refine wp_region_held (S := fun z => z.heap[Bc]? = some (.cells #[.int .i64 10, .int .i64 0, .int .i64 10] 28)) (by kernel_rfl) ?_
            obtain ⟨wz, hwz⟩ : ∃ x, w73.drew = x := ⟨_, rfl⟩
            change wpAnyH _ _ _ _ _ _ _ _ (w73.drew)
            rw [hwz]
            have hq : Below w73.heap.size w73 wz := by rw [← hwz]; exact (Below.refl _ _).drew
            have HS : Hid (wz.heap[Bc]? = some (.cells #[.int .i64 10, .int .i64 0, .int .i64 10] 28)) := Lib.hid (heap_lift HC.out hq)
            clear hwz
            skip
            refine held_take (i := 0) (d := some 261) (v := cargoV 10 0 10) rfl rfl (by kernel_rfl) (by kernel_rfl) (by kernel_rfl) (fun _ _ _ h => h) (Or.inl ⟨by rfl, fun z hz => by (have k0 := heap_cell hz (j := 0) rfl; have k1 := heap_cell hz (j := 1) rfl; have k2 := heap_cell hz (j := 2) rfl; go_simp)⟩) HS.out ?_
            simp only [Act.put, List.setIfInBounds_toArray, List.set_cons_zero, List.set_cons_succ]
            refine wpAnyH_all (rs := [1]) (by kernel_rfl) (by simp) (fun i hi => ?_)
            obtain rfl : i = 1 := by simpa using hi
            clear hi
            refine wpOp_step rfl (fun K hK => ?_)
            go_simp
            with_reducible refine (drawn_any 1 1 _).mono ?_
            rintro e w74 ⟨rfl, hb⟩
            replace hq := below_then hq hb
            clear hb
            dsimp only
            refine hK _ _ (held_and (heap_lift HC.out hq) (fun hs => ?_))
            clear hK K
            replace HS := Lib.hid hs
            clear hs
            refine wpAnyH_all (rs := [2]) (by kernel_rfl) (by simp) (fun i hi => ?_)
            obtain rfl : i = 2 := by simpa using hi
            clear hi
            refine wpOp_step rfl (fun K hK => ?_)
            go_simp
            with_reducible refine (erAtMost _).mono ?_
            rintro e w75 ⟨rfl, hb⟩
            replace hq := below_then hq hb
            clear hb
            dsimp only
            refine hK _ _ (held_and (heap_lift HC.out hq) (fun hs => ?_))
            clear hK K
            replace HS := Lib.hid hs
            clear hs
            refine held_take (i := 3) (d := some 260) (v := .tuple #[.agg #[.int .i64 0, .int .i64 0], .int .i64 2]) rfl rfl (by kernel_rfl) (by kernel_rfl) (by kernel_rfl) (fun _ _ _ h => h) (Or.inl ⟨by rfl, fun z hz => by (go_simp)⟩) HS.out ?_
            simp only [Act.put, List.setIfInBounds_toArray, List.set_cons_zero, List.set_cons_succ]
            refine held_take (i := 4) (d := some 264) (v := .agg #[.int .i64 0, .int .i64 0]) rfl rfl (by kernel_rfl) (by kernel_rfl) (by kernel_rfl) (fun _ _ _ h => h) (Or.inl ⟨by rfl, fun z hz => by (go_simp)⟩) HS.out ?_
            simp only [Act.put, List.setIfInBounds_toArray, List.set_cons_zero, List.set_cons_succ]
            refine held_take (i := 5) (d := some 265) (v := .int .i64 2) rfl rfl (by kernel_rfl) (by kernel_rfl) (by kernel_rfl) (fun _ _ _ h => h) (Or.inl ⟨by rfl, fun z hz => by (go_simp)⟩) HS.out ?_
            simp only [Act.put, List.setIfInBounds_toArray, List.set_cons_zero, List.set_cons_succ]
            refine held_take (i := 6) (d := some 10) (v := .int .i64 2) rfl rfl (by kernel_rfl) (by kernel_rfl) (by kernel_rfl) (fun _ _ _ h => h) (Or.inl ⟨by rfl, fun z hz => by (go_simp)⟩) HS.out ?_
            simp only [Act.put, List.setIfInBounds_toArray, List.set_cons_zero, List.set_cons_succ]
            refine wpAnyH_done (by kernel_rfl) ?_ _
            replace HC := Lib.hid (heap_lift HC.out hq)
            replace HF := Lib.hid (heap_lift HF.out hq)
            replace HM := Lib.hid (heap_lift HM.out hq)
            replace HR := Lib.hid (heap_lift HR.out hq)
            replace HA := Lib.hid (heap_lift HA.out hq)
            replace HQ := Lib.hid (heap_lift HQ.out hq)
            replace HD := Lib.hid (heap_lift HD.out hq)
            replace HG := Lib.hid (heap_lift HG.out hq)
            replace H5 := Lib.hid (H5.out.below hq)
            replace H9 := Lib.hid (H9.out.below hq)
            replace HV := Lib.hid (HV.out.below hq)
            replace HB := Lib.hid (below_then HB.out hq)
            clear hq HS
            go_wp2_with fail
            refine wp_region_held (S := fun z => z.heap[(Bc + 1)]? = some (.cells #[.int .i64 10, .int .i64 0, .int .i64 3] 28)) (by kernel_rfl) ?_
            obtain ⟨wz, hwz⟩ : ∃ x, w75.drew = x := ⟨_, rfl⟩
            change wpAnyH _ _ _ _ _ _ _ _ (w75.drew)
            rw [hwz]
            have hq : Below w75.heap.size w75 wz := by rw [← hwz]; exact (Below.refl _ _).drew
            have HS : Hid (wz.heap[(Bc + 1)]? = some (.cells #[.int .i64 10, .int .i64 0, .int .i64 3] 28)) := Lib.hid (heap_lift HF.out hq)
            clear hwz
            skip
            refine held_take (i := 0) (d := some 267) (v := cargoV 10 0 3) rfl rfl (by kernel_rfl) (by kernel_rfl) (by kernel_rfl) (fun _ _ _ h => h) (Or.inl ⟨by rfl, fun z hz => by (have k0 := heap_cell hz (j := 0) rfl; have k1 := heap_cell hz (j := 1) rfl; have k2 := heap_cell hz (j := 2) rfl; go_simp)⟩) HS.out ?_
            simp only [Act.put, List.setIfInBounds_toArray, List.set_cons_zero, List.set_cons_succ]
            refine wpAnyH_all (rs := [1]) (by kernel_rfl) (by simp) (fun i hi => ?_)
            obtain rfl : i = 1 := by simpa using hi
            clear hi
            refine wpOp_step rfl (fun K hK => ?_)
            go_simp
            with_reducible refine (drawn_any 10 4 _).mono ?_
            rintro e w76 ⟨rfl, hb⟩
            replace hq := below_then hq hb
            clear hb
            dsimp only
            refine hK _ _ (held_and (heap_lift HF.out hq) (fun hs => ?_))
            clear hK K
            replace HS := Lib.hid hs
            clear hs
            refine wpAnyH_all (rs := [2]) (by kernel_rfl) (by simp) (fun i hi => ?_)
            obtain rfl : i = 2 := by simpa using hi
            clear hi
            refine wpOp_step rfl (fun K hK => ?_)
            go_simp
            with_reducible refine (erCan _).mono ?_
            rintro e w77 ⟨rfl, hb⟩
            replace hq := below_then hq hb
            clear hb
            dsimp only
            refine hK _ _ (held_and (heap_lift HF.out hq) (fun hs => ?_))
            clear hK K
            replace HS := Lib.hid hs
            clear hs
            refine held_take (i := 3) (d := some 266) (v := .tuple #[.agg #[.int .i64 0, .int .i64 0], .int .i64 8]) rfl rfl (by kernel_rfl) (by kernel_rfl) (by kernel_rfl) (fun _ _ _ h => h) (Or.inl ⟨by rfl, fun z hz => by (go_simp)⟩) HS.out ?_
            simp only [Act.put, List.setIfInBounds_toArray, List.set_cons_zero, List.set_cons_succ]
            refine held_take (i := 4) (d := some 270) (v := .agg #[.int .i64 0, .int .i64 0]) rfl rfl (by kernel_rfl) (by kernel_rfl) (by kernel_rfl) (fun _ _ _ h => h) (Or.inl ⟨by rfl, fun z hz => by (go_simp)⟩) HS.out ?_
            simp only [Act.put, List.setIfInBounds_toArray, List.set_cons_zero, List.set_cons_succ]
            refine held_take (i := 5) (d := some 271) (v := .int .i64 8) rfl rfl (by kernel_rfl) (by kernel_rfl) (by kernel_rfl) (fun _ _ _ h => h) (Or.inl ⟨by rfl, fun z hz => by (go_simp)⟩) HS.out ?_
            simp only [Act.put, List.setIfInBounds_toArray, List.set_cons_zero, List.set_cons_succ]
            refine held_take (i := 6) (d := some 12) (v := .int .i64 8) rfl rfl (by kernel_rfl) (by kernel_rfl) (by kernel_rfl) (fun _ _ _ h => h) (Or.inl ⟨by rfl, fun z hz => by (go_simp)⟩) HS.out ?_
            simp only [Act.put, List.setIfInBounds_toArray, List.set_cons_zero, List.set_cons_succ]
            refine wpAnyH_done (by kernel_rfl) ?_ _
            replace HC := Lib.hid (heap_lift HC.out hq)
            replace HF := Lib.hid (heap_lift HF.out hq)
            replace HM := Lib.hid (heap_lift HM.out hq)
            replace HR := Lib.hid (heap_lift HR.out hq)
            replace HA := Lib.hid (heap_lift HA.out hq)
            replace HQ := Lib.hid (heap_lift HQ.out hq)
            replace HD := Lib.hid (heap_lift HD.out hq)
            replace HG := Lib.hid (heap_lift HG.out hq)
            replace H5 := Lib.hid (H5.out.below hq)
            replace H9 := Lib.hid (H9.out.below hq)
            replace HV := Lib.hid (HV.out.below hq)
            replace HB := Lib.hid (below_then HB.out hq)
            clear hq HS
            go_wp2_with fail
            refine wp_region_held (S := fun z => z.heap[Bc]? = some (.cells #[.int .i64 10, .int .i64 0, .int .i64 10] 28)) (by kernel_rfl) ?_
            obtain ⟨wz, hwz⟩ : ∃ x, w77.drew = x := ⟨_, rfl⟩
            change wpAnyH _ _ _ _ _ _ _ _ (w77.drew)
            rw [hwz]
            have hq : Below w77.heap.size w77 wz := by rw [← hwz]; exact (Below.refl _ _).drew
            have HS : Hid (wz.heap[Bc]? = some (.cells #[.int .i64 10, .int .i64 0, .int .i64 10] 28)) := Lib.hid (heap_lift HC.out hq)
            clear hwz
            skip
            refine held_take (i := 0) (d := some 273) (v := cargoV 10 0 10) rfl rfl (by kernel_rfl) (by kernel_rfl) (by kernel_rfl) (fun _ _ _ h => h) (Or.inl ⟨by rfl, fun z hz => by (have k0 := heap_cell hz (j := 0) rfl; have k1 := heap_cell hz (j := 1) rfl; have k2 := heap_cell hz (j := 2) rfl; go_simp)⟩) HS.out ?_
            simp only [Act.put, List.setIfInBounds_toArray, List.set_cons_zero, List.set_cons_succ]
            refine wpAnyH_all (rs := [1]) (by kernel_rfl) (by simp) (fun i hi => ?_)
            obtain rfl : i = 1 := by simpa using hi
            clear hi
            refine wpOp_step rfl (fun K hK => ?_)
            go_simp
            with_reducible refine (drawn_any 10 4 _).mono ?_
            rintro e w78 ⟨rfl, hb⟩
            replace hq := below_then hq hb
            clear hb
            dsimp only
            refine hK _ _ (held_and (heap_lift HC.out hq) (fun hs => ?_))
            clear hK K
            replace HS := Lib.hid hs
            clear hs
            refine wpAnyH_all (rs := [2]) (by kernel_rfl) (by simp) (fun i hi => ?_)
            obtain rfl : i = 2 := by simpa using hi
            clear hi
            refine wpOp_step rfl (fun K hK => ?_)
            go_simp
            with_reducible refine (erRest _).mono ?_
            rintro e w79 ⟨rfl, hb⟩
            replace hq := below_then hq hb
            clear hb
            dsimp only
            refine hK _ _ (held_and (heap_lift HC.out hq) (fun hs => ?_))
            clear hK K
            replace HS := Lib.hid hs
            clear hs
            refine held_take (i := 3) (d := some 272) (v := .tuple #[cargoV 0 0 0, .int .i64 6]) rfl rfl (by kernel_rfl) (by kernel_rfl) (by kernel_rfl) (fun _ _ _ h => h) (Or.inl ⟨by rfl, fun z hz => by (go_simp)⟩) HS.out ?_
            simp only [Act.put, List.setIfInBounds_toArray, List.set_cons_zero, List.set_cons_succ]
            refine held_take (i := 4) (d := some 276) (v := cargoV 0 0 0) rfl rfl (by kernel_rfl) (by kernel_rfl) (by kernel_rfl) (fun _ _ _ h => h) (Or.inl ⟨by rfl, fun z hz => by (go_simp)⟩) HS.out ?_
            simp only [Act.put, List.setIfInBounds_toArray, List.set_cons_zero, List.set_cons_succ]
            refine held_take (i := 5) (d := some 277) (v := .int .i64 6) rfl rfl (by kernel_rfl) (by kernel_rfl) (by kernel_rfl) (fun _ _ _ h => h) (Or.inl ⟨by rfl, fun z hz => by (go_simp)⟩) HS.out ?_
            simp only [Act.put, List.setIfInBounds_toArray, List.set_cons_zero, List.set_cons_succ]
            refine held_take (i := 6) (d := some 14) (v := .int .i64 6) rfl rfl (by kernel_rfl) (by kernel_rfl) (by kernel_rfl) (fun _ _ _ h => h) (Or.inl ⟨by rfl, fun z hz => by (go_simp)⟩) HS.out ?_
            simp only [Act.put, List.setIfInBounds_toArray, List.set_cons_zero, List.set_cons_succ]
            refine wpAnyH_done (by kernel_rfl) ?_ _
            replace HC := Lib.hid (heap_lift HC.out hq)
            replace HF := Lib.hid (heap_lift HF.out hq)
            replace HM := Lib.hid (heap_lift HM.out hq)
            replace HR := Lib.hid (heap_lift HR.out hq)
            replace HA := Lib.hid (heap_lift HA.out hq)
            replace HQ := Lib.hid (heap_lift HQ.out hq)
            replace HD := Lib.hid (heap_lift HD.out hq)
            replace HG := Lib.hid (heap_lift HG.out hq)
            replace H5 := Lib.hid (H5.out.below hq)
            replace H9 := Lib.hid (H9.out.below hq)
            replace HV := Lib.hid (HV.out.below hq)
            replace HB := Lib.hid (below_then HB.out hq)
            clear hq HS
            go_wp2_with fail
            refine wp_region_held (S := fun z => z.heap[Bc]? = some (.cells #[.int .i64 10, .int .i64 0, .int .i64 10] 28)) (by kernel_rfl) ?_
            obtain ⟨wz, hwz⟩ : ∃ x, w79.drew = x := ⟨_, rfl⟩
            change wpAnyH _ _ _ _ _ _ _ _ (w79.drew)
            rw [hwz]
            have hq : Below w79.heap.size w79 wz := by rw [← hwz]; exact (Below.refl _ _).drew
            have HS : Hid (wz.heap[Bc]? = some (.cells #[.int .i64 10, .int .i64 0, .int .i64 10] 28)) := Lib.hid (heap_lift HC.out hq)
            clear hwz
            skip
            refine held_take (i := 0) (d := some 279) (v := cargoV 10 0 10) rfl rfl (by kernel_rfl) (by kernel_rfl) (by kernel_rfl) (fun _ _ _ h => h) (Or.inl ⟨by rfl, fun z hz => by (have k0 := heap_cell hz (j := 0) rfl; have k1 := heap_cell hz (j := 1) rfl; have k2 := heap_cell hz (j := 2) rfl; go_simp)⟩) HS.out ?_
            simp only [Act.put, List.setIfInBounds_toArray, List.set_cons_zero, List.set_cons_succ]
            refine wpAnyH_all (rs := [1]) (by kernel_rfl) (by simp) (fun i hi => ?_)
            obtain rfl : i = 1 := by simpa using hi
            clear hi
            refine wpOp_step rfl (fun K hK => ?_)
            go_simp
            with_reducible refine (drawn_any 1 1 _).mono ?_
            rintro e w80 ⟨rfl, hb⟩
            replace hq := below_then hq hb
            clear hb
            dsimp only
            refine hK _ _ (held_and (heap_lift HC.out hq) (fun hs => ?_))
            clear hK K
            replace HS := Lib.hid hs
            clear hs
            refine wpAnyH_all (rs := [2]) (by kernel_rfl) (by simp) (fun i hi => ?_)
            obtain rfl : i = 2 := by simpa using hi
            clear hi
            refine wpOp_step rfl (fun K hK => ?_)
            go_simp
            with_reducible refine (newPart_any 1 0 _).mono ?_
            rintro e w81 ⟨rfl, hb⟩
            replace hq := below_then hq hb
            clear hb
            dsimp only
            refine hK _ _ (held_and (heap_lift HC.out hq) (fun hs => ?_))
            clear hK K
            replace HS := Lib.hid hs
            clear hs
            refine wpAnyH_all (rs := [3]) (by kernel_rfl) (by simp) (fun i hi => ?_)
            obtain rfl : i = 3 := by simpa using hi
            clear hi
            refine wpOp_step rfl (fun K hK => ?_)
            go_simp
            with_reducible refine (erBound _).mono ?_
            rintro e w82 ⟨rfl, hb⟩
            replace hq := below_then hq hb
            clear hb
            dsimp only
            refine hK _ _ (held_and (heap_lift HC.out hq) (fun hs => ?_))
            clear hK K
            replace HS := Lib.hid hs
            clear hs
            refine held_take (i := 4) (d := some 278) (v := .tuple #[.int .i64 0, .int .i64 12]) rfl rfl (by kernel_rfl) (by kernel_rfl) (by kernel_rfl) (fun _ _ _ h => h) (Or.inl ⟨by rfl, fun z hz => by (go_simp)⟩) HS.out ?_
            simp only [Act.put, List.setIfInBounds_toArray, List.set_cons_zero, List.set_cons_succ]
            refine held_take (i := 5) (d := some 283) (v := .int .i64 0) rfl rfl (by kernel_rfl) (by kernel_rfl) (by kernel_rfl) (fun _ _ _ h => h) (Or.inl ⟨by rfl, fun z hz => by (go_simp)⟩) HS.out ?_
            simp only [Act.put, List.setIfInBounds_toArray, List.set_cons_zero, List.set_cons_succ]
            refine held_take (i := 6) (d := some 284) (v := .int .i64 12) rfl rfl (by kernel_rfl) (by kernel_rfl) (by kernel_rfl) (fun _ _ _ h => h) (Or.inl ⟨by rfl, fun z hz => by (go_simp)⟩) HS.out ?_
            simp only [Act.put, List.setIfInBounds_toArray, List.set_cons_zero, List.set_cons_succ]
            refine held_take (i := 7) (d := some 16) (v := .int .i64 12) rfl rfl (by kernel_rfl) (by kernel_rfl) (by kernel_rfl) (fun _ _ _ h => h) (Or.inl ⟨by rfl, fun z hz => by (go_simp)⟩) HS.out ?_
            simp only [Act.put, List.setIfInBounds_toArray, List.set_cons_zero, List.set_cons_succ]
            refine wpAnyH_done (by kernel_rfl) ?_ _
            replace HC := Lib.hid (heap_lift HC.out hq)
            replace HF := Lib.hid (heap_lift HF.out hq)
            replace HM := Lib.hid (heap_lift HM.out hq)
            replace HR := Lib.hid (heap_lift HR.out hq)
            replace HA := Lib.hid (heap_lift HA.out hq)
            replace HQ := Lib.hid (heap_lift HQ.out hq)
            replace HD := Lib.hid (heap_lift HD.out hq)
            replace HG := Lib.hid (heap_lift HG.out hq)
            replace H5 := Lib.hid (H5.out.below hq)
            replace H9 := Lib.hid (H9.out.below hq)
            replace HV := Lib.hid (HV.out.below hq)
            replace HB := Lib.hid (below_then HB.out hq)
            clear hq HS
            go_wp2_with fail
            refine wp_region_held (S := fun z => z.heap[Bc]? = some (.cells #[.int .i64 10, .int .i64 0, .int .i64 10] 28)) (by kernel_rfl) ?_
            obtain ⟨wz, hwz⟩ : ∃ x, w82.drew = x := ⟨_, rfl⟩
            change wpAnyH _ _ _ _ _ _ _ _ (w82.drew)
            rw [hwz]
            have hq : Below w82.heap.size w82 wz := by rw [← hwz]; exact (Below.refl _ _).drew
            have HS : Hid (wz.heap[Bc]? = some (.cells #[.int .i64 10, .int .i64 0, .int .i64 10] 28)) := Lib.hid (heap_lift HC.out hq)
            clear hwz
            skip
            refine held_take (i := 0) (d := some 286) (v := cargoV 10 0 10) rfl rfl (by kernel_rfl) (by kernel_rfl) (by kernel_rfl) (fun _ _ _ h => h) (Or.inl ⟨by rfl, fun z hz => by (have k0 := heap_cell hz (j := 0) rfl; have k1 := heap_cell hz (j := 1) rfl; have k2 := heap_cell hz (j := 2) rfl; go_simp)⟩) HS.out ?_
            simp only [Act.put, List.setIfInBounds_toArray, List.set_cons_zero, List.set_cons_succ]
            refine wpAnyH_all (rs := [1]) (by kernel_rfl) (by simp) (fun i hi => ?_)
            obtain rfl : i = 1 := by simpa using hi
            clear hi
            refine wpOp_step rfl (fun K hK => ?_)
            go_simp
            with_reducible refine (newPart_any 1 1000 _).mono ?_
            rintro e w83 ⟨rfl, hb⟩
            replace hq := below_then hq hb
            clear hb
            dsimp only
            refine hK _ _ (held_and (heap_lift HC.out hq) (fun hs => ?_))
            clear hK K
            replace HS := Lib.hid hs
            clear hs
            refine wpAnyH_all (rs := [2]) (by kernel_rfl) (by simp) (fun i hi => ?_)
            obtain rfl : i = 2 := by simpa using hi
            clear hi
            refine wpOp_step rfl (fun K hK => ?_)
            go_simp
            with_reducible refine (erFind _).mono ?_
            rintro e w84 ⟨n0, rfl, hb⟩
            replace hq := below_then hq hb
            clear hb
            dsimp only
            refine hK _ _ (held_and (heap_lift HC.out hq) (fun hs => ?_))
            clear hK K
            replace HS := Lib.hid hs
            clear hs
            refine held_take (i := 3) (d := some 285) (v := .tuple #[.int .i64 n0, .int .i64 6]) rfl rfl (by kernel_rfl) (by kernel_rfl) (by kernel_rfl) (fun _ _ _ h => h) (Or.inl ⟨by rfl, fun z hz => by (go_simp)⟩) HS.out ?_
            simp only [Act.put, List.setIfInBounds_toArray, List.set_cons_zero, List.set_cons_succ]
            refine held_take (i := 4) (d := some 289) (v := .int .i64 n0) rfl rfl (by kernel_rfl) (by kernel_rfl) (by kernel_rfl) (fun _ _ _ h => h) (Or.inl ⟨by rfl, fun z hz => by (go_simp)⟩) HS.out ?_
            simp only [Act.put, List.setIfInBounds_toArray, List.set_cons_zero, List.set_cons_succ]
            refine held_take (i := 5) (d := some 290) (v := .int .i64 6) rfl rfl (by kernel_rfl) (by kernel_rfl) (by kernel_rfl) (fun _ _ _ h => h) (Or.inl ⟨by rfl, fun z hz => by (go_simp)⟩) HS.out ?_
            simp only [Act.put, List.setIfInBounds_toArray, List.set_cons_zero, List.set_cons_succ]
            refine held_take (i := 6) (d := some 18) (v := .int .i64 6) rfl rfl (by kernel_rfl) (by kernel_rfl) (by kernel_rfl) (fun _ _ _ h => h) (Or.inl ⟨by rfl, fun z hz => by (go_simp)⟩) HS.out ?_
            simp only [Act.put, List.setIfInBounds_toArray, List.set_cons_zero, List.set_cons_succ]
            refine wpAnyH_done (by kernel_rfl) ?_ _
            replace HC := Lib.hid (heap_lift HC.out hq)
            replace HF := Lib.hid (heap_lift HF.out hq)
            replace HM := Lib.hid (heap_lift HM.out hq)
            replace HR := Lib.hid (heap_lift HR.out hq)
            replace HA := Lib.hid (heap_lift HA.out hq)
            replace HQ := Lib.hid (heap_lift HQ.out hq)
            replace HD := Lib.hid (heap_lift HD.out hq)
            replace HG := Lib.hid (heap_lift HG.out hq)
            replace H5 := Lib.hid (H5.out.below hq)
            replace H9 := Lib.hid (H9.out.below hq)
            replace HV := Lib.hid (HV.out.below hq)
            replace HB := Lib.hid (below_then HB.out hq)
            clear hq HS
            have cHC0 := heap_cell HC.out (j := 0) rfl
            have cHC1 := heap_cell HC.out (j := 1) rfl
            have cHC2 := heap_cell HC.out (j := 2) rfl
            go_wp2_with fail
            clear cHC0 cHC1 cHC2
            refine (erAccepts _).mono ?_
            rintro e w85 ⟨rfl, hb⟩
            replace HC := Lib.hid (heap_lift HC.out hb)
            replace HF := Lib.hid (heap_lift HF.out hb)
            replace HM := Lib.hid (heap_lift HM.out hb)
            replace HR := Lib.hid (heap_lift HR.out hb)
            replace HA := Lib.hid (heap_lift HA.out hb)
            replace HQ := Lib.hid (heap_lift HQ.out hb)
            replace HD := Lib.hid (heap_lift HD.out hb)
            replace HG := Lib.hid (heap_lift HG.out hb)
            replace H5 := Lib.hid (H5.out.below hb)
            replace H9 := Lib.hid (H9.out.below hb)
            replace HV := Lib.hid (HV.out.below hb)
            replace HB := Lib.hid (below_then HB.out hb)
            clear hb
            go_wp2_with fail
            refine wp_region_held (S := fun z => z.heap[Bc]? = some (.cells #[.int .i64 10, .int .i64 0, .int .i64 10] 28)) (by kernel_rfl) ?_
            obtain ⟨wz, hwz⟩ : ∃ x, w85.drew = x := ⟨_, rfl⟩
            change wpAnyH _ _ _ _ _ _ _ _ (w85.drew)
            rw [hwz]
            have hq : Below w85.heap.size w85 wz := by rw [← hwz]; exact (Below.refl _ _).drew
            have HS : Hid (wz.heap[Bc]? = some (.cells #[.int .i64 10, .int .i64 0, .int .i64 10] 28)) := Lib.hid (heap_lift HC.out hq)
            clear hwz
            skip
            refine held_take (i := 0) (d := some 298) (v := cargoV 10 0 10) rfl rfl (by kernel_rfl) (by kernel_rfl) (by kernel_rfl) (fun _ _ _ h => h) (Or.inl ⟨by rfl, fun z hz => by (have k0 := heap_cell hz (j := 0) rfl; have k1 := heap_cell hz (j := 1) rfl; have k2 := heap_cell hz (j := 2) rfl; go_simp)⟩) HS.out ?_
            simp only [Act.put, List.setIfInBounds_toArray, List.set_cons_zero, List.set_cons_succ]
            refine wpAnyH_all (rs := [1]) (by kernel_rfl) (by simp) (fun i hi => ?_)
            obtain rfl : i = 1 := by simpa using hi
            clear hi
            refine wpOp_step rfl (fun K hK => ?_)
            go_simp
            with_reducible refine (newPart_any 1 1 _).mono ?_
            rintro e w86 ⟨rfl, hb⟩
            replace hq := below_then hq hb
            clear hb
            dsimp only
            refine hK _ _ (held_and (heap_lift HC.out hq) (fun hs => ?_))
            clear hK K
            replace HS := Lib.hid hs
            clear hs
            refine wpAnyH_all (rs := [2]) (by kernel_rfl) (by simp) (fun i hi => ?_)
            obtain rfl : i = 2 := by simpa using hi
            clear hi
            refine wpOp_step rfl (fun K hK => ?_)
            go_simp
            with_reducible refine (newPart_any 1 1 _).mono ?_
            rintro e w87 ⟨rfl, hb⟩
            replace hq := below_then hq hb
            clear hb
            dsimp only
            refine hK _ _ (held_and (heap_lift HC.out hq) (fun hs => ?_))
            clear hK K
            replace HS := Lib.hid hs
            clear hs
            refine wpAnyH_all (rs := [3]) (by kernel_rfl) (by simp) (fun i hi => ?_)
            obtain rfl : i = 3 := by simpa using hi
            clear hi
            refine wpOp_step rfl (fun K hK => ?_)
            go_simp
            with_reducible refine (erLeast _).mono ?_
            rintro e w88 ⟨rfl, hb⟩
            replace hq := below_then hq hb
            clear hb
            dsimp only
            refine hK _ _ (held_and (heap_lift HC.out hq) (fun hs => ?_))
            clear hK K
            replace HS := Lib.hid hs
            clear hs
            refine held_take (i := 4) (d := some 297) (v := .tuple #[.agg #[.int .i64 0, .int .i64 0], .int .i64 2]) rfl rfl (by kernel_rfl) (by kernel_rfl) (by kernel_rfl) (fun _ _ _ h => h) (Or.inl ⟨by rfl, fun z hz => by (go_simp)⟩) HS.out ?_
            simp only [Act.put, List.setIfInBounds_toArray, List.set_cons_zero, List.set_cons_succ]
            refine held_take (i := 5) (d := some 302) (v := .agg #[.int .i64 0, .int .i64 0]) rfl rfl (by kernel_rfl) (by kernel_rfl) (by kernel_rfl) (fun _ _ _ h => h) (Or.inl ⟨by rfl, fun z hz => by (go_simp)⟩) HS.out ?_
            simp only [Act.put, List.setIfInBounds_toArray, List.set_cons_zero, List.set_cons_succ]
            refine held_take (i := 6) (d := some 303) (v := .int .i64 2) rfl rfl (by kernel_rfl) (by kernel_rfl) (by kernel_rfl) (fun _ _ _ h => h) (Or.inl ⟨by rfl, fun z hz => by (go_simp)⟩) HS.out ?_
            simp only [Act.put, List.setIfInBounds_toArray, List.set_cons_zero, List.set_cons_succ]
            refine held_take (i := 7) (d := some 22) (v := .int .i64 2) rfl rfl (by kernel_rfl) (by kernel_rfl) (by kernel_rfl) (fun _ _ _ h => h) (Or.inl ⟨by rfl, fun z hz => by (go_simp)⟩) HS.out ?_
            simp only [Act.put, List.setIfInBounds_toArray, List.set_cons_zero, List.set_cons_succ]
            refine wpAnyH_done (by kernel_rfl) ?_ _
            replace HC := Lib.hid (heap_lift HC.out hq)
            replace HF := Lib.hid (heap_lift HF.out hq)
            replace HM := Lib.hid (heap_lift HM.out hq)
            replace HR := Lib.hid (heap_lift HR.out hq)
            replace HA := Lib.hid (heap_lift HA.out hq)
            replace HQ := Lib.hid (heap_lift HQ.out hq)
            replace HD := Lib.hid (heap_lift HD.out hq)
            replace HG := Lib.hid (heap_lift HG.out hq)
            replace H5 := Lib.hid (H5.out.below hq)
            replace H9 := Lib.hid (H9.out.below hq)
            replace HV := Lib.hid (HV.out.below hq)
            replace HB := Lib.hid (below_then HB.out hq)
            clear hq HS
            have cHC0 := heap_cell HC.out (j := 0) rfl
            have cHC1 := heap_cell HC.out (j := 1) rfl
            have cHC2 := heap_cell HC.out (j := 2) rfl
            go_wp2_with fail
            clear cHC0 cHC1 cHC2
            refine (erTwice _).mono ?_
            rintro e w89 ⟨rfl, hb⟩
            replace HC := Lib.hid (heap_lift HC.out hb)
            replace HF := Lib.hid (heap_lift HF.out hb)
            replace HM := Lib.hid (heap_lift HM.out hb)
            replace HR := Lib.hid (heap_lift HR.out hb)
            replace HA := Lib.hid (heap_lift HA.out hb)
            replace HQ := Lib.hid (heap_lift HQ.out hb)
            replace HD := Lib.hid (heap_lift HD.out hb)
            replace HG := Lib.hid (heap_lift HG.out hb)
            replace H5 := Lib.hid (H5.out.below hb)
            replace H9 := Lib.hid (H9.out.below hb)
            replace HV := Lib.hid (HV.out.below hb)
            replace HB := Lib.hid (below_then HB.out hb)
            clear hb
            go_wp2_with fail
            obtain ⟨w90, hW⟩ : ∃ W, w89.alloc (.cells #[.int .i64 5, .int .i64 3, .int .i64 6, .int .i64 2] 73) = W := ⟨_, rfl⟩
            have hb : Below w89.heap.size w89 w90 := by rw [← hW]; exact (Below.refl _ _).alloc (Nat.le_refl _) _
            have HE : Hid (w90.heap[w89.heap.size]? = some (.cells #[.int .i64 5, .int .i64 3, .int .i64 6, .int .i64 2] 73)) := Lib.hid (by rw [← hW]; exact heap_top _ _ rfl)
            rw [hW]
            clear hW
            replace HC := Lib.hid (heap_lift HC.out hb)
            replace HF := Lib.hid (heap_lift HF.out hb)
            replace HM := Lib.hid (heap_lift HM.out hb)
            replace HR := Lib.hid (heap_lift HR.out hb)
            replace HA := Lib.hid (heap_lift HA.out hb)
            replace HQ := Lib.hid (heap_lift HQ.out hb)
            replace HD := Lib.hid (heap_lift HD.out hb)
            replace HG := Lib.hid (heap_lift HG.out hb)
            replace H5 := Lib.hid (H5.out.below hb)
            replace H9 := Lib.hid (H9.out.below hb)
            replace HV := Lib.hid (HV.out.below hb)
            replace HB := Lib.hid (below_then HB.out hb)
            clear hb
            refine (drawn_any _ _ _).mono ?_
            rintro e w91 ⟨rfl, hb⟩
            replace HC := Lib.hid (heap_lift HC.out hb)
            replace HF := Lib.hid (heap_lift HF.out hb)
            replace HM := Lib.hid (heap_lift HM.out hb)
            replace HR := Lib.hid (heap_lift HR.out hb)
            replace HA := Lib.hid (heap_lift HA.out hb)
            replace HQ := Lib.hid (heap_lift HQ.out hb)
            replace HD := Lib.hid (heap_lift HD.out hb)
            replace HG := Lib.hid (heap_lift HG.out hb)
            replace HE := Lib.hid (heap_lift HE.out hb)
            replace H5 := Lib.hid (H5.out.below hb)
            replace H9 := Lib.hid (H9.out.below hb)
            replace HV := Lib.hid (HV.out.below hb)
            replace HB := Lib.hid (below_then HB.out hb)
            clear hb
            go_wp2_with fail
            refine (erOff1 _ _ _ (lit_terms2 HE.out)).mono ?_
            rintro e w92 ⟨rfl, hb⟩
            replace HC := Lib.hid (heap_lift HC.out hb)
            replace HF := Lib.hid (heap_lift HF.out hb)
            replace HM := Lib.hid (heap_lift HM.out hb)
            replace HR := Lib.hid (heap_lift HR.out hb)
            replace HA := Lib.hid (heap_lift HA.out hb)
            replace HQ := Lib.hid (heap_lift HQ.out hb)
            replace HD := Lib.hid (heap_lift HD.out hb)
            replace HG := Lib.hid (heap_lift HG.out hb)
            replace HE := Lib.hid (heap_lift HE.out hb)
            replace H5 := Lib.hid (H5.out.below hb)
            replace H9 := Lib.hid (H9.out.below hb)
            replace HV := Lib.hid (HV.out.below hb)
            replace HB := Lib.hid (below_then HB.out hb)
            clear hb
            go_wp2_with fail
            refine (drawn_any _ _ _).mono ?_
            rintro e w93 ⟨rfl, hb⟩
            replace HC := Lib.hid (heap_lift HC.out hb)
            replace HF := Lib.hid (heap_lift HF.out hb)
            replace HM := Lib.hid (heap_lift HM.out hb)
            replace HR := Lib.hid (heap_lift HR.out hb)
            replace HA := Lib.hid (heap_lift HA.out hb)
            replace HQ := Lib.hid (heap_lift HQ.out hb)
            replace HD := Lib.hid (heap_lift HD.out hb)
            replace HG := Lib.hid (heap_lift HG.out hb)
            replace HE := Lib.hid (heap_lift HE.out hb)
            replace H5 := Lib.hid (H5.out.below hb)
            replace H9 := Lib.hid (H9.out.below hb)
            replace HV := Lib.hid (HV.out.below hb)
            replace HB := Lib.hid (below_then HB.out hb)
            clear hb
            go_wp2_with fail
            refine (erOff2 _).mono ?_
            rintro e w94 ⟨rfl, hb⟩
            replace HC := Lib.hid (heap_lift HC.out hb)
            replace HF := Lib.hid (heap_lift HF.out hb)
            replace HM := Lib.hid (heap_lift HM.out hb)
            replace HR := Lib.hid (heap_lift HR.out hb)
            replace HA := Lib.hid (heap_lift HA.out hb)
            replace HQ := Lib.hid (heap_lift HQ.out hb)
            replace HD := Lib.hid (heap_lift HD.out hb)
            replace HG := Lib.hid (heap_lift HG.out hb)
            replace HE := Lib.hid (heap_lift HE.out hb)
            replace H5 := Lib.hid (H5.out.below hb)
            replace H9 := Lib.hid (H9.out.below hb)
            replace HV := Lib.hid (HV.out.below hb)
            replace HB := Lib.hid (below_then HB.out hb)
            clear hb
            have cHC0 := heap_cell HC.out (j := 0) rfl
            have cHC1 := heap_cell HC.out (j := 1) rfl
            have cHC2 := heap_cell HC.out (j := 2) rfl
            go_wp2_with fail
            clear cHC0 cHC1 cHC2
            refine (erFair _).mono ?_
            rintro e w95 ⟨rfl, hb⟩
            replace HC := Lib.hid (heap_lift HC.out hb)
            replace HF := Lib.hid (heap_lift HF.out hb)
            replace HM := Lib.hid (heap_lift HM.out hb)
            replace HR := Lib.hid (heap_lift HR.out hb)
            replace HA := Lib.hid (heap_lift HA.out hb)
            replace HQ := Lib.hid (heap_lift HQ.out hb)
            replace HD := Lib.hid (heap_lift HD.out hb)
            replace HG := Lib.hid (heap_lift HG.out hb)
            replace HE := Lib.hid (heap_lift HE.out hb)
            replace H5 := Lib.hid (H5.out.below hb)
            replace H9 := Lib.hid (H9.out.below hb)
            replace HV := Lib.hid (HV.out.below hb)
            replace HB := Lib.hid (below_then HB.out hb)
            clear hb
            go_wp2_with fail
            refine (erAward _).mono ?_
            rintro e w96 ⟨rfl, hb'⟩
            have hb : Below w95.heap.size w95 w96 := ((Below.refl _ _).alloc (Nat.le_refl _) _).trans (hb'.mono (by simp))
            clear hb'
            replace HC := Lib.hid (heap_lift HC.out hb)
            replace HF := Lib.hid (heap_lift HF.out hb)
            replace HM := Lib.hid (heap_lift HM.out hb)
            replace HR := Lib.hid (heap_lift HR.out hb)
            replace HA := Lib.hid (heap_lift HA.out hb)
            replace HQ := Lib.hid (heap_lift HQ.out hb)
            replace HD := Lib.hid (heap_lift HD.out hb)
            replace HG := Lib.hid (heap_lift HG.out hb)
            replace HE := Lib.hid (heap_lift HE.out hb)
            replace H5 := Lib.hid (H5.out.below hb)
            replace H9 := Lib.hid (H9.out.below hb)
            replace HV := Lib.hid (HV.out.below hb)
            replace HB := Lib.hid (below_then HB.out hb)
            clear hb
            have cHG0 := heap_cell HG.out (j := 0) rfl
            have cHG1 := heap_cell HG.out (j := 1) rfl
            have cHG2 := heap_cell HG.out (j := 2) rfl
            go_wp2_with fail
            clear cHG0 cHG1 cHG2
            refine (erCheck1 _).mono ?_
            rintro e w97 ⟨rfl, hb⟩
            replace HC := Lib.hid (heap_lift HC.out hb)
            replace HF := Lib.hid (heap_lift HF.out hb)
            replace HM := Lib.hid (heap_lift HM.out hb)
            replace HR := Lib.hid (heap_lift HR.out hb)
            replace HA := Lib.hid (heap_lift HA.out hb)
            replace HQ := Lib.hid (heap_lift HQ.out hb)
            replace HD := Lib.hid (heap_lift HD.out hb)
            replace HG := Lib.hid (heap_lift HG.out hb)
            replace HE := Lib.hid (heap_lift HE.out hb)
            replace H5 := Lib.hid (H5.out.below hb)
            replace H9 := Lib.hid (H9.out.below hb)
            replace HV := Lib.hid (HV.out.below hb)
            replace HB := Lib.hid (below_then HB.out hb)
            clear hb
            have cHC0 := heap_cell HC.out (j := 0) rfl
            have cHC1 := heap_cell HC.out (j := 1) rfl
            have cHC2 := heap_cell HC.out (j := 2) rfl
            go_wp2_with fail
            clear cHC0 cHC1 cHC2
            refine (erCheck2 _).mono ?_
            rintro e w98 ⟨rfl, hb⟩
            replace HC := Lib.hid (heap_lift HC.out hb)
            replace HF := Lib.hid (heap_lift HF.out hb)
            replace HM := Lib.hid (heap_lift HM.out hb)
            replace HR := Lib.hid (heap_lift HR.out hb)
            replace HA := Lib.hid (heap_lift HA.out hb)
            replace HQ := Lib.hid (heap_lift HQ.out hb)
            replace HD := Lib.hid (heap_lift HD.out hb)
            replace HG := Lib.hid (heap_lift HG.out hb)
            replace HE := Lib.hid (heap_lift HE.out hb)
            replace H5 := Lib.hid (H5.out.below hb)
            replace H9 := Lib.hid (H9.out.below hb)
            replace HV := Lib.hid (HV.out.below hb)
            replace HB := Lib.hid (below_then HB.out hb)
            clear hb
            go_wp2_with fail
            go_ret
            exact ⟨rfl, HB.out⟩

end Go.Proofs.YtjegkkpdemoldaaGreatDoor
