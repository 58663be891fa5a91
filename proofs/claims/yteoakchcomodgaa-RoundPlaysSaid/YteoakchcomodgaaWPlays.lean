/-
  The law RoundPlays, walked.
-/
import Derived.Test.YteoakchcomodgaaWDaySame
namespace Go.Proofs.Yteoakchcomodgaa
open Go.RowKit

theorem OwnNums.nil {w : World} {base : Nat} {t : TypeId} {k : Nat} {a : Option Addr} {len cap : Nat} {F : Nat → Int} (h : OwnNums w base t k a len cap F) (e : a = none) : len = 0 ∧ cap = 0 := by
  obtain ⟨h1, h2, h3⟩ | ⟨g, h1, _⟩ := h.own_block
  · exact ⟨h2, h3⟩
  · rw [h1] at e
    cases e
theorem Pure.rep_law {h : Int} {n : Nat} {F : Nat → Int} {m : Nat} {L : Nat → Nat} {G : Nat → Nat → Int} : (decide (repE h n F m L G = 0) && rep n F m L G 7) = (decide (repE h n F m L G = 0) && rep n F m L G 6) := by
  by_cases e : repE h n F m L G = 0
  · have e2 := e
    unfold repE at e2
    by_cases hb : bothE h n F m L G = 0
    · rw [if_pos hb] at e2
      have hm : 0 < m := by
        by_cases c : 0 < m
        · exact c
        · rw [decide_eq_false c] at e2
          simp [err] at e2
      rw [rep_same (both_zero hb).1 hm]
    · rw [if_neg hb] at e2
      exact absurd e2 hb
  · rw [decide_eq_false e]
    rfl
/-- What After answers on both sides. -/
theorem after_both {h : Int} {n : Nat} {F : Nat → Int} {m : Nat} {L : Nat → Nat} {G : Nat → Nat → Int} {w1 w1' w2 w2' : World} {e1 e2 : Ending} (h1 : AfterOut h n F m L G w1 e1 w1') (h2 : RAfterOut h n F m L G w2 e2 w2') :
    ∃ hA nA aA cA aB cB code, e1 = .returned (.tuple #[watchV hA aA nA cA, .int .i64 code]) ∧ e2 = .returned (.tuple #[watchV hA aB nA cB, .int .i64 code]) ∧ nA ≤ 4 ∧ Below w1.heap.size w1 w1' ∧ Below w2.heap.size w2 w2' ∧
      ∃ X, OwnNums w1' w1.heap.size 47 3 aA nA cA X ∧ NumsAt w2' aB (nA * 3) X := by
  obtain ⟨h1', a1, n1, c1, rfl, hb1, hc1⟩ := h1
  obtain ⟨h2', a2, n2, c2, rfl, hb2, hc2⟩ := h2
  rcases hc1 with ⟨hz, rfl, rfl, hn4, ho⟩ | ⟨hz, rfl, rfl, rfl, rfl⟩
  · rcases hc2 with ⟨_, rfl, rfl, _, hn⟩ | ⟨hz2, _⟩
    · exact ⟨_, _, _, _, _, _, _, rfl, rfl, hn4, hb1, hb2, _, ho, hn⟩
    · exact absurd hz hz2
  · rcases hc2 with ⟨hz2, _⟩ | ⟨_, rfl, rfl, rfl, rfl⟩
    · exact absurd hz2 hz
    · exact ⟨_, _, _, _, _, _, _, rfl, rfl, by omega, hb1, hb2, fun _ => 0, own_nil _ _ _ _ _, fun j hj => by omega⟩

set_option maxHeartbeats 400000000 in
set_option maxRecDepth 100000 in
theorem plays_walk (h : Int) (a : Option Addr) (n c : Nat) (F : Nat → Int) (s : Option Addr) (m mc : Nat) (L : Nat → Nat) (G : Nat → Nat → Int) (hnil : a = none → n = 0) (w : World) (hF : NumsAt w a (n * 3) F) (hG : DaysAt w s m L G) :
    Calls Try.prog 3 #[watchV h a n c, .slice s m mc] w fun x w' => x = .returned (.bool true) ∧ Below w.heap.size w w' := by
  obtain ⟨W, hW⟩ : ∃ W, w.alloc (watchB h a n c) = W := ⟨_, rfl⟩
  have HB : Hid (Below w.heap.size w W) := Lib.hid (by rw [← hW]; exact below_new _ _)
  have HX : Hid (W.heap[w.heap.size]? = some (watchB h a n c)) := Lib.hid (by rw [← hW]; exact heap_top _ _ rfl)
  have HP := Lib.hid (hF.below HB.out)
  have HD := Lib.hid (hG.below HB.out)
  have HNL := Lib.hid hnil
  clear hF hG hnil
  have x0 := heap_cell HX.out (j := 0) rfl
  have x1 := heap_cell HX.out (j := 1) rfl
  go_enter Try.func3, Try.ntmps3
  go_upto_region 1 with fail
  try rw [hW]
  clear hW
  go_wp2_with fail
  refine (great_any h a n c _).mono ?_
  rintro e1 W1 ⟨rfl, hb⟩
  replace HB := Lib.hid (below_thn HB.out hb)
  replace HX := Lib.hid (heap_lft HX.out hb)
  replace HP := Lib.hid (HP.out.below hb)
  replace HD := Lib.hid (HD.out.below hb)
  clear hb x0 x1
  by_cases hbig : (10 : Int) < n
  · have hbt : decide ((10 : Int) < n) = true := decide_eq_true hbig
    go_wp2_with fail
    go_ret
    exact ⟨rfl, HB.out⟩
  have hbt : decide ((10 : Int) < n) = false := decide_eq_false hbig
  have HN : Hid (n ≤ 10) := Lib.hid (by omega)
  clear hbig
  go_wp2_with fail
  refine (greatDays_any s m mc L G _ HD.out).mono ?_
  rintro e1 W2 ⟨rfl, hb⟩
  replace HB := Lib.hid (below_thn HB.out hb)
  replace HX := Lib.hid (heap_lft HX.out hb)
  replace HP := Lib.hid (HP.out.below hb)
  replace HD := Lib.hid (HD.out.below hb)
  clear hb hbt
  by_cases hgd : m ≤ 80 ∧ ∀ j, j < m → L j ≤ 10
  rotate_left
  · have hbt : Pure.greatD m L = true := by unfold Pure.greatD; rw [decide_eq_false hgd]; rfl
    rw [hbt]
    clear hgd
    go_wp2_with fail
    go_ret
    exact ⟨rfl, HB.out⟩
  have hbt : Pure.greatD m L = false := by unfold Pure.greatD; rw [decide_eq_true hgd]; rfl
  rw [hbt]
  have HM : Hid (m ≤ 80 ∧ ∀ j, j < m → L j ≤ 10) := Lib.hid hgd
  clear hgd hbt
  have x0 := heap_cell HX.out (j := 0) rfl
  have x1 := heap_cell HX.out (j := 1) rfl
  go_wp2_with fail
  refine (twin_any h a n c F (by have := HN.out; omega) HNL.out _ HP.out).mono ?_
  rintro e1 W3 ⟨a1, c1, rfl, ho, hb⟩
  replace HB := Lib.hid (below_thn HB.out hb)
  replace HX := Lib.hid (heap_lft HX.out hb)
  replace HP := Lib.hid (HP.out.below hb)
  replace HD := Lib.hid (HD.out.below hb)
  have HO := Lib.hid ho
  clear hb ho x0 x1
  go_wp2_with fail
  refine (twinDays_any s m mc L G (by have := HM.out.1; omega) (fun j hj => by have := HM.out.2 j hj; omega) _ HD.out).mono ?_
  rintro e1 W4 ⟨s1, mc1, rfl, hmi, hb⟩
  replace HB := Lib.hid (below_thn HB.out hb)
  replace HX := Lib.hid (heap_lft HX.out hb)
  replace HP := Lib.hid (HP.out.below hb)
  replace HD := Lib.hid (HD.out.below hb)
  replace HO := Lib.hid (HO.out.below hb)
  have HMI := Lib.hid hmi
  clear hb hmi
  go_upto_region 4 with fail
  obtain ⟨V, hV⟩ : ∃ x, W4.alloc (watchB h a1 n c1) = x := ⟨_, rfl⟩
  have hb : Below W4.heap.size W4 V := by rw [← hV]; exact below_new _ _
  have HT : Hid (V.heap[W4.heap.size]? = some (watchB h a1 n c1)) := Lib.hid (by rw [← hV]; exact heap_top _ _ rfl)
  replace HB := Lib.hid (below_thn HB.out hb)
  replace HX := Lib.hid (heap_lft HX.out hb)
  replace HP := Lib.hid (HP.out.below hb)
  replace HD := Lib.hid (HD.out.below hb)
  replace HO := Lib.hid (HO.out.below hb)
  replace HMI := Lib.hid (HMI.out.below hb)
  try rw [hV]
  clear hV hb
  have x0 := heap_cell HT.out (j := 0) rfl
  have x1 := heap_cell HT.out (j := 1) rfl
  go_wp2_with fail
  refine (hot_any h a1 n c1 F s1 m mc1 L G (by have := HN.out; omega) (by have := HM.out.1; omega) (fun j hj => by have := HM.out.2 j hj; omega) _ HO.out.nums HMI.out).mono ?_
  rintro e1 P1 ⟨ha, hac, rfl, hho, hb⟩
  replace HB := Lib.hid (below_thn HB.out hb)
  replace HX := Lib.hid (heap_lft HX.out hb)
  replace HP := Lib.hid (HP.out.below hb)
  replace HD := Lib.hid (HD.out.below hb)
  replace HO := Lib.hid (HO.out.below hb)
  replace HMI := Lib.hid (HMI.out.below hb)
  replace HT := Lib.hid (heap_lft HT.out hb)
  obtain ⟨l4, hl4⟩ : ∃ x, Pure.playedL h n F m L G = x := ⟨_, rfl⟩
  obtain ⟨q1, hq1⟩ : ∃ x, Pure.bothE h n F m L G = x := ⟨_, rfl⟩
  have hll : l4.length ≤ 1000 := by
    rw [← hl4]
    unfold Pure.playedL
    split
    · rename_i hz
      have h1 := Pure.hots_len n F L G (Pure.nowS n F) m
      have h2 := (Pure.watch_facts (Pure.both_zero hz).1).2.2.1
      have h3 : m * n ≤ 80 * 4 := Nat.mul_le_mul HM.out.1 h2
      omega
    · simp
  have HLL := Lib.hid hll
  have HL4 := Lib.hid hl4
  have HQ1 := Lib.hid hq1
  rw [hl4] at hho
  rw [hl4, hq1]
  have HH1 := Lib.hid hho.at
  clear hb hho hll hl4 hq1 x0 x1
  have x0 := heap_cell HX.out (j := 0) rfl
  have x1 := heap_cell HX.out (j := 1) rfl
  go_wp2_with fail
  refine (rHot_any h a n c F s m mc L G (by have := HN.out; omega) (by have := HM.out.1; omega) (fun j hj => by have := HM.out.2 j hj; omega) _ HP.out HD.out).mono ?_
  rintro e1 V0 ⟨hb1, hbc, rfl, hho, hb⟩
  replace HB := Lib.hid (below_thn HB.out hb)
  replace HX := Lib.hid (heap_lft HX.out hb)
  replace HP := Lib.hid (HP.out.below hb)
  replace HD := Lib.hid (HD.out.below hb)
  replace HO := Lib.hid (HO.out.below hb)
  replace HMI := Lib.hid (HMI.out.below hb)
  replace HT := Lib.hid (heap_lft HT.out hb)
  replace HH1 := Lib.hid (HH1.out.below hb)
  rw [HL4.out] at hho
  rw [HL4.out, HQ1.out]
  have HH2 := Lib.hid hho.at
  clear hb hho x0 x1
  have HLB : Hid (Below V0.heap.size V0 V0) := Lib.hid (Below.refl _ _)
  have HX0 := HX
  have HT0 := HT
  have HP0 := HP
  have HD0 := HD
  have HO0 := HO
  have HMI0 := HMI
  have HB0 := HB
  have x0 := heap_cell HT.out (j := 0) rfl
  have x1 := heap_cell HT.out (j := 1) rfl
  go_wp2_with fail
  refine (after_any h a1 n c1 F s1 m mc1 L G (by have := HN.out; omega) (by have := HM.out.1; omega) (fun j hj => by have := HM.out.2 j hj; omega) (fun e => HO.out.nil e) _ HO.out.nums HMI.out).mono ?_
  rintro e1 P2 hpa
  obtain ⟨hA, aA, nA, cA, he, hb, hca⟩ := _root_.id hpa
  subst he
  have HPA := Lib.hid hpa
  clear hpa hca
  replace HB := Lib.hid (below_thn HB.out hb)
  replace HX := Lib.hid (heap_lft HX.out hb)
  replace HP := Lib.hid (HP.out.below hb)
  replace HD := Lib.hid (HD.out.below hb)
  replace HO := Lib.hid (HO.out.below hb)
  replace HMI := Lib.hid (HMI.out.below hb)
  replace HT := Lib.hid (heap_lft HT.out hb)
  replace HH1 := Lib.hid (HH1.out.below hb)
  replace HH2 := Lib.hid (HH2.out.below hb)
  replace HLB := Lib.hid (HLB.out.trans (hb.mono HLB.out.size))
  have HLP2 := HLB
  clear hb x0 x1
  go_upto_region 7 with fail
  obtain ⟨V1, hV⟩ : ∃ x, P2.alloc (watchB hA aA nA cA) = x := ⟨_, rfl⟩
  have hb : Below P2.heap.size P2 V1 := by rw [← hV]; exact below_new _ _
  have HRA : Hid (V1.heap[P2.heap.size]? = some (watchB hA aA nA cA)) := Lib.hid (by rw [← hV]; exact heap_top _ _ rfl)
  replace HB := Lib.hid (below_thn HB.out hb)
  replace HX := Lib.hid (heap_lft HX.out hb)
  replace HP := Lib.hid (HP.out.below hb)
  replace HD := Lib.hid (HD.out.below hb)
  replace HO := Lib.hid (HO.out.below hb)
  replace HMI := Lib.hid (HMI.out.below hb)
  replace HT := Lib.hid (heap_lft HT.out hb)
  replace HH1 := Lib.hid (HH1.out.below hb)
  replace HH2 := Lib.hid (HH2.out.below hb)
  replace HLB := Lib.hid (HLB.out.trans (hb.mono HLB.out.size))
  have HB21 := Lib.hid hb
  try rw [hV]
  clear hV hb
  have x0 := heap_cell HX.out (j := 0) rfl
  have x1 := heap_cell HX.out (j := 1) rfl
  go_wp2_with fail
  refine (rAfter_any h a n c F s m mc L G (by have := HN.out; omega) (by have := HM.out.1; omega) (fun j hj => by have := HM.out.2 j hj; omega) HNL.out _ HP.out HD.out).mono ?_
  rintro e1 P3 hpb
  obtain ⟨hB, aB, nB, cB, he, hb, hcb⟩ := _root_.id hpb
  subst he
  obtain ⟨hA', nA', aA', cA', aB', cB', code, e1, e2, hn4, _, _, X, hoX, hnX⟩ := after_both HPA.out hpb
  simp only [Ending.returned.injEq, Value.tuple.injEq, Array.mk.injEq, List.cons.injEq, Value.agg.injEq, Value.int.injEq, Value.slice.injEq, and_true, true_and] at e1 e2
  obtain ⟨⟨rfl, rfl, rfl, rfl⟩, hcode⟩ := e1
  obtain ⟨⟨rfl, rfl, rfl, rfl⟩, _⟩ := e2
  rw [hcode]
  have HCODE := Lib.hid hcode
  have HN4 := Lib.hid hn4
  have HOX0 := Lib.hid hoX
  have HNB := Lib.hid hnX
  clear hpb hcb hcode hn4 hoX hnX HPA
  replace HB := Lib.hid (below_thn HB.out hb)
  replace HX := Lib.hid (heap_lft HX.out hb)
  replace HP := Lib.hid (HP.out.below hb)
  replace HD := Lib.hid (HD.out.below hb)
  replace HO := Lib.hid (HO.out.below hb)
  replace HMI := Lib.hid (HMI.out.below hb)
  replace HT := Lib.hid (heap_lft HT.out hb)
  replace HH1 := Lib.hid (HH1.out.below hb)
  replace HH2 := Lib.hid (HH2.out.below hb)
  replace HLB := Lib.hid (HLB.out.trans (hb.mono HLB.out.size))
  replace HRA := Lib.hid (heap_lft HRA.out hb)
  replace HB21 := Lib.hid (HB21.out.trans (hb.mono HB21.out.size))
  clear hb x0 x1
  go_upto_region 8 with fail
  obtain ⟨V2, hV⟩ : ∃ x, P3.alloc (watchB hB aB nB cB) = x := ⟨_, rfl⟩
  have hb : Below P3.heap.size P3 V2 := by rw [← hV]; exact below_new _ _
  have HRB : Hid (V2.heap[P3.heap.size]? = some (watchB hB aB nB cB)) := Lib.hid (by rw [← hV]; exact heap_top _ _ rfl)
  replace HB := Lib.hid (below_thn HB.out hb)
  replace HX := Lib.hid (heap_lft HX.out hb)
  replace HP := Lib.hid (HP.out.below hb)
  replace HD := Lib.hid (HD.out.below hb)
  replace HO := Lib.hid (HO.out.below hb)
  replace HMI := Lib.hid (HMI.out.below hb)
  replace HT := Lib.hid (heap_lft HT.out hb)
  replace HH1 := Lib.hid (HH1.out.below hb)
  replace HH2 := Lib.hid (HH2.out.below hb)
  replace HLB := Lib.hid (HLB.out.trans (hb.mono HLB.out.size))
  replace HRA := Lib.hid (heap_lft HRA.out hb)
  replace HB21 := Lib.hid (HB21.out.trans (hb.mono HB21.out.size))
  replace HNB := Lib.hid (HNB.out.below hb)
  try rw [hV]
  clear hV hb
  have x0 := heap_cell HT.out (j := 0) rfl
  have x1 := heap_cell HT.out (j := 1) rfl
  go_wp2_with fail
  refine (repeatsTop_any h a1 n c1 F s1 m mc1 L G (by have := HN.out; omega) (by have := HM.out.1; omega) (fun j hj => by have := HM.out.2 j hj; omega) _ HO.out.nums HMI.out).mono ?_
  rintro e1 P4 ⟨rfl, hb⟩
  obtain ⟨r6, hr6⟩ : ∃ x, (decide (Pure.repE h n F m L G = 0) && Pure.rep n F m L G 6) = x := ⟨_, rfl⟩
  obtain ⟨q2, hq2⟩ : ∃ x, Pure.repE h n F m L G = x := ⟨_, rfl⟩
  have HR6 := Lib.hid hr6
  have HQ2 := Lib.hid hq2
  rw [hr6, hq2]
  clear hr6 hq2
  replace HB := Lib.hid (below_thn HB.out hb)
  replace HX := Lib.hid (heap_lft HX.out hb)
  replace HP := Lib.hid (HP.out.below hb)
  replace HD := Lib.hid (HD.out.below hb)
  replace HO := Lib.hid (HO.out.below hb)
  replace HMI := Lib.hid (HMI.out.below hb)
  replace HT := Lib.hid (heap_lft HT.out hb)
  replace HH1 := Lib.hid (HH1.out.below hb)
  replace HH2 := Lib.hid (HH2.out.below hb)
  replace HLB := Lib.hid (HLB.out.trans (hb.mono HLB.out.size))
  replace HRA := Lib.hid (heap_lft HRA.out hb)
  replace HB21 := Lib.hid (HB21.out.trans (hb.mono HB21.out.size))
  replace HNB := Lib.hid (HNB.out.below hb)
  replace HRB := Lib.hid (heap_lft HRB.out hb)
  clear hb x0 x1
  have x0 := heap_cell HX.out (j := 0) rfl
  have x1 := heap_cell HX.out (j := 1) rfl
  go_wp2_with fail
  refine (rRepeats_any h a n c F s m mc L G (by have := HN.out; omega) (by have := HM.out.1; omega) (fun j hj => by have := HM.out.2 j hj; omega) _ HP.out HD.out).mono ?_
  rintro e1 P5 ⟨rfl, hb⟩
  rw [Pure.rep_law, HR6.out, HQ2.out]
  replace HB := Lib.hid (below_thn HB.out hb)
  replace HX := Lib.hid (heap_lft HX.out hb)
  replace HP := Lib.hid (HP.out.below hb)
  replace HD := Lib.hid (HD.out.below hb)
  replace HO := Lib.hid (HO.out.below hb)
  replace HMI := Lib.hid (HMI.out.below hb)
  replace HT := Lib.hid (heap_lft HT.out hb)
  replace HH1 := Lib.hid (HH1.out.below hb)
  replace HH2 := Lib.hid (HH2.out.below hb)
  replace HLB := Lib.hid (HLB.out.trans (hb.mono HLB.out.size))
  replace HRA := Lib.hid (heap_lft HRA.out hb)
  replace HB21 := Lib.hid (HB21.out.trans (hb.mono HB21.out.size))
  replace HNB := Lib.hid (HNB.out.below hb)
  replace HRB := Lib.hid (heap_lft HRB.out hb)
  clear hb x0 x1
  go_wp2_with fail
  refine (sameHeats_any ha hb1 hac hbc l4 HLL.out _ HH1.out HH2.out).mono ?_
  rintro e1 P6 ⟨rfl, hb⟩
  replace HB := Lib.hid (below_thn HB.out hb)
  replace HX := Lib.hid (heap_lft HX.out hb)
  replace HP := Lib.hid (HP.out.below hb)
  replace HD := Lib.hid (HD.out.below hb)
  replace HO := Lib.hid (HO.out.below hb)
  replace HMI := Lib.hid (HMI.out.below hb)
  replace HT := Lib.hid (heap_lft HT.out hb)
  replace HH1 := Lib.hid (HH1.out.below hb)
  replace HH2 := Lib.hid (HH2.out.below hb)
  replace HLB := Lib.hid (HLB.out.trans (hb.mono HLB.out.size))
  replace HRA := Lib.hid (heap_lft HRA.out hb)
  replace HB21 := Lib.hid (HB21.out.trans (hb.mono HB21.out.size))
  replace HNB := Lib.hid (HNB.out.below hb)
  replace HRB := Lib.hid (heap_lft HRB.out hb)
  clear hb
  have x0 := heap_cell HRA.out (j := 0) rfl
  have x1 := heap_cell HRA.out (j := 1) rfl
  have y0 := heap_cell HRB.out (j := 0) rfl
  have y1 := heap_cell HRB.out (j := 1) rfl
  have HOX := Lib.hid (HOX0.out.below HB21.out)
  go_wp2_with fail
  refine (same_true hB aA nB cA aB cB X (by have := HN4.out; omega) _ HOX.out.nums HNB.out).mono ?_
  rintro e1 P7 ⟨rfl, hb⟩
  replace HB := Lib.hid (below_thn HB.out hb)
  replace HX := Lib.hid (heap_lft HX.out hb)
  replace HP := Lib.hid (HP.out.below hb)
  replace HD := Lib.hid (HD.out.below hb)
  replace HO := Lib.hid (HO.out.below hb)
  replace HMI := Lib.hid (HMI.out.below hb)
  replace HT := Lib.hid (heap_lft HT.out hb)
  replace HH1 := Lib.hid (HH1.out.below hb)
  replace HH2 := Lib.hid (HH2.out.below hb)
  replace HLB := Lib.hid (HLB.out.trans (hb.mono HLB.out.size))
  replace HRA := Lib.hid (heap_lft HRA.out hb)
  replace HB21 := Lib.hid (HB21.out.trans (hb.mono HB21.out.size))
  replace HNB := Lib.hid (HNB.out.below hb)
  replace HRB := Lib.hid (heap_lft HRB.out hb)
  replace HOX := Lib.hid (HOX.out.below hb)
  clear hb x0 x1 y0 y1
  have HZ2 : Hid (V0.heap.size ≤ P2.heap.size) := Lib.hid HLP2.out.size
  have x1 := heap_cell HRA.out (j := 1) rfl
  go_wp2_with fail
  clear x1
  go_loopw [20, 98] (fun _ ix wr => ∃ k : Nat, k ≤ nB ∧ ix = .int .i64 k ∧ (∃ X', OwnNums wr V0.heap.size 47 3 aA nB cA X') ∧ wr.heap[P2.heap.size]? = some (watchB hB aA nB cA) ∧ Below V0.heap.size V0 wr) (fun _ ix _ => nB - (intOf ix).toNat)
  case atStart => exact ⟨0, Nat.zero_le _, rfl, ⟨X, HOX.out⟩, HRA.out, HLB.out⟩
  case round =>
    have HOXA : Hid (∀ x, aA = some x → x.block < P2.heap.size) := Lib.hid (fun x hx => (HOX0.out.lt x hx).2)
    clear HOX HRA HLB HX HT HP HD HO HMI HB HRB HNB HH1 HH2 HB21
    obtain ⟨k, hk, rfl, ⟨X', ho⟩, hr, hb⟩ := hrel
    have HO := Lib.hid ho
    have HRr := Lib.hid hr
    have HLr := Lib.hid hb
    clear ho hr hb
    by_cases hk1 : k < nB
    · have HK := Lib.hid hk1
      obtain ⟨g, arr, rfl, hg, hga⟩ := HO.out.at (by omega)
      have HG := Lib.hid hg
      have HGL := Lib.hid (HOXA.out _ rfl)
      have n1 : (k : Int) < nB := by omega
      have x1 := heap_cell HRr.out (j := 1) rfl
      have c1' := nums_row (w := wr) HO.out.nums (show k * 3 + 1 < nB * 3 by omega)
      have f1 := heap_frozen hga (k * 3 + 1)
      simp only [Nat.zero_add] at c1'
      have hn4 := HN4.out
      clear hga hg
      go_wp2_with fail
      have hgl := HGL.out
      have hgg := HG.out
      go_roundw
      case rel => exact ⟨k + 1, HK.out, by go_num, ⟨_, HO.out.put (by have := HK.out; omega) rfl⟩, (setCell_other (by dsimp only at hgl ⊢; omega)).trans HRr.out, HLr.out.setCell hgg _⟩
      case measure => have := HK.out; simp [intOf]; omega
    · obtain rfl : k = nB := by omega
      have HT := Lib.hid (heap_lft HT0.out HLr.out)
      have HX := Lib.hid (heap_lft HX0.out HLr.out)
      have HP := Lib.hid (HP0.out.below HLr.out)
      have HD := Lib.hid (HD0.out.below HLr.out)
      have HOw := Lib.hid (HO0.out.below HLr.out)
      have HMI := Lib.hid (HMI0.out.below HLr.out)
      have HB := Lib.hid (below_thn HB0.out HLr.out)
      have x0 := heap_cell HT.out (j := 0) rfl
      have x1 := heap_cell HT.out (j := 1) rfl
      have y0 := heap_cell HX.out (j := 0) rfl
      have y1 := heap_cell HX.out (j := 1) rfl
      go_wp2_with fail
      refine (same_true h a1 n c1 a c F (by have := HN.out; omega) _ HOw.out.nums HP.out).mono ?_
      rintro e1 Q1 ⟨rfl, hb⟩
      have HB1 := Lib.hid (below_thn HB.out hb)
      have HD1 := Lib.hid (HD.out.below hb)
      have HMI1 := Lib.hid (HMI.out.below hb)
      clear hb x0 x1 y0 y1
      go_wp2_with fail
      refine (sameDays_any s1 m mc1 s mc L G (by have := HM.out.1; omega) (fun j hj => by have := HM.out.2 j hj; omega) _ HMI1.out HD1.out).mono ?_
      rintro e1 Q2 ⟨rfl, hb⟩
      have HB2 := Lib.hid (below_thn HB1.out hb)
      clear hb
      go_wp2_with fail
      go_ret
      exact ⟨rfl, HB2.out⟩

end Go.Proofs.Yteoakchcomodgaa
