/-
  PlanChanges: the law's walk.
-/
import Derived.Test.YtknpdjbokgenpaaPRSell
import Derived.Test.YtknpdjbokgenpaaPRLand
import Derived.Test.YtknpdjbokgenpaaPLand
namespace Go.Proofs.Ytknpdjbokgenpaa
open Go.RowKit

theorem OwnNums.nil {w : World} {base : Nat} {t : TypeId} {k : Nat} {a : Option Addr} {len cap : Nat} {F : Nat → Int} (h : OwnNums w base t k a len cap F) (e : a = none) : len = 0 ∧ cap = 0 := by
  rcases h.own_block with ⟨_, h1, h2⟩ | ⟨g, h1, _⟩
  · exact ⟨h1, h2⟩
  · rw [e] at h1; cases h1
theorem OwnPlan.nil {w : World} {base : Nat} {p : PlanX} {T A S : Nat → Int} (h : OwnPlan w base p T A S) : NilPlan p := ⟨h.t.nil, h.a.nil, h.s.nil⟩
/-- Two answers that are the same, each in its call's own memory. -/
def Twice (p q q' : PlanX) (c c' : Int) (w1 w1' w2 w2' : World) : Prop :=
  ∃ T A S a1 c1 a2 c2 a3 c3, q' = q.moved a1 c1 a2 c2 a3 c3 ∧ c = c' ∧ q.tn ≤ p.tn ∧ q.an ≤ p.an + 1 ∧ q.sn ≤ p.sn + 1 ∧ OwnPlan w1' w1.heap.size q T A S ∧ OwnPlan w2' w2.heap.size q' T A S
theorem twice_none (p : PlanX) (c : Int) (w1 w1' w2 w2' : World) : Twice p noPlan noPlan c c w1 w1' w2 w2' :=
  ⟨fun _ => 0, fun _ => 0, fun _ => 0, none, 0, none, 0, none, 0, rfl, rfl, Nat.zero_le _, Nat.zero_le _, Nat.zero_le _, ⟨own_nil _ _ _ _ _, own_nil _ _ _ _ _, own_nil _ _ _ _ _⟩, ⟨own_nil _ _ _ _ _, own_nil _ _ _ _ _, own_nil _ _ _ _ _⟩⟩
theorem SellOut.same {p : PlanX} {T A S : Nat → Int} {i s l d : Int} {w1 w1' w2 w2' : World} {q q' : PlanX} {c c' : Int} (p1 : SellOut p T A S i s l d w1 (.returned (.tuple #[planV q, .int .i64 c])) w1') (p2 : SellOut p T A S i s l d w2 (.returned (.tuple #[planV q', .int .i64 c'])) w2') : Twice p q q' c c' w1 w1' w2 w2' := by
  obtain ⟨x, _, e1, _, q1⟩ := p1
  obtain ⟨y, _, e2, _, q2⟩ := p2
  obtain rfl : q = x := by cases q; cases x; simp at e1; simp [e1]
  obtain rfl : q' = y := by cases q'; cases y; simp at e2; simp [e2]
  simp at e1 e2
  subst e1
  subst e2
  rcases q1 with ⟨a1, rfl, rfl⟩ | ⟨a1, a2, rfl, rfl⟩ | ⟨a1, a2, k, a3, q1⟩
  · rcases q2 with ⟨b1, rfl, rfl⟩ | ⟨b1, _⟩ | ⟨b1, _⟩
    · exact twice_none _ _ _ _ _ _
    · rw [a1] at b1; cases b1
    · rw [a1] at b1; cases b1
  · rcases q2 with ⟨b1, _⟩ | ⟨b1, b2, rfl, rfl⟩ | ⟨b1, b2, _⟩
    · rw [a1] at b1; cases b1
    · exact twice_none _ _ _ _ _ _
    · exact absurd b2 a2
  · rcases q2 with ⟨b1, _⟩ | ⟨b1, b2, _⟩ | ⟨b1, b2, k', b3, q2⟩
    · rw [a1] at b1; cases b1
    · exact absurd a2 b2
    · obtain rfl := a3.same b3
      rcases q1 with ⟨d1, rfl, rfl⟩ | ⟨d1, rfl, x1, y1, x2, y2, x3, y3, rfl, d2⟩
      · rcases q2 with ⟨f1, rfl, rfl⟩ | ⟨f1, _⟩
        · exact twice_none _ _ _ _ _ _
        · rw [d1] at f1; cases f1
      · rcases q2 with ⟨f1, _⟩ | ⟨f1, rfl, u1, v1, u2, v2, u3, v3, rfl, f2⟩
        · rw [d1] at f1; cases f1
        · exact ⟨_, _, _, u1, v1, u2, v2, u3, v3, rfl, rfl, Nat.le_refl _, Nat.le_succ _, Nat.le_refl _, d2, f2⟩
theorem LandOut.same {p : PlanX} {T A S : Nat → Int} {d l : Int} {w1 w1' w2 w2' : World} {q q' : PlanX} {c c' : Int} (p1 : LandOut p T A S d l w1 (.returned (.tuple #[planV q, .int .i64 c])) w1') (p2 : LandOut p T A S d l w2 (.returned (.tuple #[planV q', .int .i64 c'])) w2') : Twice p q q' c c' w1 w1' w2 w2' := by
  obtain ⟨x, _, e1, _, q1⟩ := p1
  obtain ⟨y, _, e2, _, q2⟩ := p2
  obtain rfl : q = x := by cases q; cases x; simp at e1; simp [e1]
  obtain rfl : q' = y := by cases q'; cases y; simp at e2; simp [e2]
  simp at e1 e2
  subst e1
  subst e2
  rcases q1 with ⟨a1, rfl, rfl⟩ | ⟨a1, a2, rfl, rfl⟩ | ⟨a1, a2, k, a3, q1⟩
  · rcases q2 with ⟨b1, rfl, rfl⟩ | ⟨b1, _⟩ | ⟨b1, _⟩
    · exact twice_none _ _ _ _ _ _
    · rw [a1] at b1; cases b1
    · rw [a1] at b1; cases b1
  · rcases q2 with ⟨b1, _⟩ | ⟨b1, b2, rfl, rfl⟩ | ⟨b1, b2, _⟩
    · rw [a1] at b1; cases b1
    · exact twice_none _ _ _ _ _ _
    · exact absurd b2 a2
  · rcases q2 with ⟨b1, _⟩ | ⟨b1, b2, _⟩ | ⟨b1, b2, k', b3, q2⟩
    · rw [a1] at b1; cases b1
    · exact absurd a2 b2
    · obtain rfl := a3.same b3
      rcases q1 with ⟨d1, rfl, rfl⟩ | ⟨d1, rfl, x1, y1, x2, y2, x3, y3, rfl, d2⟩
      · rcases q2 with ⟨f1, rfl, rfl⟩ | ⟨f1, _⟩
        · exact twice_none _ _ _ _ _ _
        · rw [d1] at f1; cases f1
      · rcases q2 with ⟨f1, _⟩ | ⟨f1, rfl, u1, v1, u2, v2, u3, v3, rfl, f2⟩
        · rw [d1] at f1; cases f1
        · exact ⟨_, _, _, u1, v1, u2, v2, u3, v3, rfl, rfl, Nat.le_refl _, Nat.le_refl _, Nat.le_succ _, d2, f2⟩
theorem RefuseOut.same {p : PlanX} {T A S : Nat → Int} {id : Int} {w1 w1' w2 w2' : World} {q q' : PlanX} {c c' : Int} (p1 : RefuseOut p T A S id w1 (.returned (.tuple #[planV q, .int .i64 c])) w1') (p2 : RefuseOut p T A S id w2 (.returned (.tuple #[planV q', .int .i64 c'])) w2') : Twice p q q' c c' w1 w1' w2 w2' := by
  obtain ⟨x, _, e1, _, q1⟩ := p1
  obtain ⟨y, _, e2, _, q2⟩ := p2
  obtain rfl : q = x := by cases q; cases x; simp at e1; simp [e1]
  obtain rfl : q' = y := by cases q'; cases y; simp at e2; simp [e2]
  simp at e1 e2
  subst e1
  subst e2
  rcases q1 with ⟨a1, rfl, rfl⟩ | ⟨a1, a2, rfl, rfl⟩ | ⟨a1, a2, rfl, x1, y1, x2, y2, x3, y3, rfl, d2⟩
  · rcases q2 with ⟨b1, rfl, rfl⟩ | ⟨b1, _⟩ | ⟨b1, _⟩
    · exact twice_none _ _ _ _ _ _
    · rw [a1] at b1; cases b1
    · rw [a1] at b1; cases b1
  · rcases q2 with ⟨b1, _⟩ | ⟨b1, b2, rfl, rfl⟩ | ⟨b1, b2, _⟩
    · rw [a1] at b1; cases b1
    · exact twice_none _ _ _ _ _ _
    · exact absurd a2 b2
  · rcases q2 with ⟨b1, _⟩ | ⟨b1, b2, _⟩ | ⟨b1, b2, rfl, u1, v1, u2, v2, u3, v3, rfl, f2⟩
    · rw [a1] at b1; cases b1
    · exact absurd b2 a2
    · exact ⟨_, _, _, u1, v1, u2, v2, u3, v3, rfl, rfl, Nat.le_refl _, Nat.le_succ _, Nat.le_trans (Pure.keepN_le _ _ _) (Nat.le_succ _), d2, f2⟩

set_option maxHeartbeats 40000000 in
set_option maxRecDepth 100000 in
theorem changes_walk (p : PlanX) (T A S : Nat → Int) (i s l d id d2 l2 : Int) (hbA : ∀ j, j < p.an * 2 → A j ≤ 9223372036854775807) (hbS : ∀ j, j < p.sn * 4 → S j ≤ 9223372036854775807) (hx : i ≤ 9223372036854775807 ∧ s ≤ 9223372036854775807 ∧ l ≤ 9223372036854775807 ∧ d ≤ 9223372036854775807) (hx2 : d2 ≤ 9223372036854775807 ∧ l2 ≤ 9223372036854775807) (hca : p.an ≤ p.ac) (hcs : p.sn ≤ p.sc) (hna : p.aa = none → p.an = 0) (hns : p.sa = none → p.sn = 0) (w : World) (h : PlanAt w p T A S) :
    Calls Try.prog 3 #[planV p, saleV i s l d, .int .i64 id, arrV d2 l2] w fun x w' => x = .returned (.bool true) ∧ Below w.heap.size w w' := by
  obtain ⟨W, hW⟩ : ∃ W, ((w.alloc (planB p)).alloc (saleB i s l d)).alloc (arrB d2 l2) = W := ⟨_, rfl⟩
  have HB : Hid (Below w.heap.size w W) := Lib.hid (by rw [← hW]; exact ((below_new _ _).alloc (by simp) _).alloc (by simp; omega) _)
  have HX : Hid (W.heap[w.heap.size]? = some (planB p)) := Lib.hid (by rw [← hW]; exact heap_up (heap_up (heap_top _ _ rfl) _) _)
  have HI : Hid (W.heap[w.heap.size + 1]? = some (saleB i s l d)) := Lib.hid (by rw [← hW]; exact heap_up (heap_top _ _ (by simp)) _)
  have HJ : Hid (W.heap[w.heap.size + 1 + 1]? = some (arrB d2 l2)) := Lib.hid (by rw [← hW]; exact heap_top _ _ (by simp))
  have HP : Hid (PlanAt W p T A S) := Lib.hid (h.below HB.out)
  have HBA := Lib.hid hbA
  have HBG := Lib.hid hbS
  have HXB := Lib.hid (And.intro hx hx2)
  have HCC := Lib.hid (And.intro hca (And.intro hcs (And.intro hna hns)))
  clear h hbA hbS hx hx2 hca hcs hna hns
  have x0 := heap_cell HX.out (j := 0) rfl
  have x1 := heap_cell HX.out (j := 1) rfl
  have x2 := heap_cell HX.out (j := 2) rfl
  have x3 := heap_cell HX.out (j := 3) rfl
  have x4 := heap_cell HX.out (j := 4) rfl
  have x5 := heap_cell HX.out (j := 5) rfl
  have x6 := heap_cell HX.out (j := 6) rfl
  go_enter Try.func3, Try.ntmps3
  go_upto_region 1 with fail
  try rw [hW]
  clear hW
  go_wp2_with fail
  refine (rGreat_any p _).mono ?_
  rintro e1 W1 ⟨rfl, hb⟩
  have HXW1 := Lib.hid (heap_lft HX.out hb)
  have HIW1 := Lib.hid (heap_lft HI.out hb)
  have HJW1 := Lib.hid (heap_lft HJ.out hb)
  have HBW1 := Lib.hid (below_thn HB.out hb)
  have HPW1 := Lib.hid (HP.out.below hb)
  clear hb x0 x1 x2 x3 x4 x5 x6
  obtain ⟨g, hg⟩ : ∃ g, (decide (30 < (p.tn : Int)) || decide (20 < (p.an : Int)) || decide (20 < (p.sn : Int))) = g := ⟨_, rfl⟩
  rw [hg]
  cases g
  · have HN : Hid (p.tn ≤ 30 ∧ p.an ≤ 20 ∧ p.sn ≤ 20) := Lib.hid (by simp at hg; omega)
    clear hg
    have x0 := heap_cell HXW1.out (j := 0) rfl
    have x1 := heap_cell HXW1.out (j := 1) rfl
    have x2 := heap_cell HXW1.out (j := 2) rfl
    have x3 := heap_cell HXW1.out (j := 3) rfl
    have x4 := heap_cell HXW1.out (j := 4) rfl
    have x5 := heap_cell HXW1.out (j := 5) rfl
    have x6 := heap_cell HXW1.out (j := 6) rfl
    go_wp2_with fail
    refine (twin_any p T A S (by have := HN.out; omega) (by have := HN.out; omega) (by have := HN.out; omega) _ HPW1.out).mono ?_
    rintro e1 W2 ⟨a1, c1, a2, c2, a3, c3, rfl, ho, hb⟩
    have HXW2 := Lib.hid (heap_lft HXW1.out hb)
    have HIW2 := Lib.hid (heap_lft HIW1.out hb)
    have HJW2 := Lib.hid (heap_lft HJW1.out hb)
    have HBW2 := Lib.hid (below_thn HBW1.out hb)
    have HPW2 := Lib.hid (HPW1.out.below hb)
    have HOW2 := Lib.hid ho
    clear hb ho x0 x1 x2 x3 x4 x5 x6
    go_upto_region 4 with fail
    obtain ⟨V0, hV0⟩ : ∃ x, W2.alloc (planB (p.moved a1 c1 a2 c2 a3 c3)) = x := ⟨_, rfl⟩
    have hb : Below W2.heap.size W2 V0 := by rw [← hV0]; exact below_new _ _
    have HTV0 : Hid (V0.heap[W2.heap.size]? = some (planB (p.moved a1 c1 a2 c2 a3 c3))) := Lib.hid (by rw [← hV0]; exact heap_top _ _ rfl)
    have HXV0 := Lib.hid (heap_lft HXW2.out hb)
    have HIV0 := Lib.hid (heap_lft HIW2.out hb)
    have HJV0 := Lib.hid (heap_lft HJW2.out hb)
    have HPV0 := Lib.hid (HPW2.out.below hb)
    have HOV0 := Lib.hid (HOW2.out.below hb)
    have HBV0 := Lib.hid (below_thn HBW2.out hb)
    try rw [hV0]
    clear hV0 hb
    have x0 := heap_cell HTV0.out (j := 0) rfl
    have x1 := heap_cell HTV0.out (j := 1) rfl
    have x2 := heap_cell HTV0.out (j := 2) rfl
    have x3 := heap_cell HTV0.out (j := 3) rfl
    have x4 := heap_cell HTV0.out (j := 4) rfl
    have x5 := heap_cell HTV0.out (j := 5) rfl
    have x6 := heap_cell HTV0.out (j := 6) rfl
    have i0 := heap_cell HIV0.out (j := 0) rfl
    have i1 := heap_cell HIV0.out (j := 1) rfl
    have i2 := heap_cell HIV0.out (j := 2) rfl
    have i3 := heap_cell HIV0.out (j := 3) rfl
    go_wp2_with fail
    refine (sell_any (p.moved a1 c1 a2 c2 a3 c3) T A S i s l d (by have := HN.out; dsimp only; omega) (by have := HN.out; dsimp only; omega) (by have := HN.out; dsimp only; omega) HOV0.out.nil _ HOV0.out.at).mono ?_
    rintro e1 PA hp
    replace hp : SellOut p T A S i s l d V0 e1 PA := hp
    obtain ⟨qA, codeA, he, hb, _⟩ := _root_.id hp
    subst he
    have HOA := Lib.hid hp
    clear hp x0 x1 x2 x3 x4 x5 x6 i0 i1 i2 i3
    have HB0PA := Lib.hid hb
    have HSZA : Hid (V0.heap.size ≤ PA.heap.size) := Lib.hid hb.size
    have HXPA := Lib.hid (heap_lft HXV0.out hb)
    have HIPA := Lib.hid (heap_lft HIV0.out hb)
    have HJPA := Lib.hid (heap_lft HJV0.out hb)
    have HTPA := Lib.hid (heap_lft HTV0.out hb)
    have HPPA := Lib.hid (HPV0.out.below hb)
    have HOPA := Lib.hid (HOV0.out.below hb)
    have HBPA := Lib.hid (below_thn HBV0.out hb)
    clear hb
    go_upto_region 5 with fail
    obtain ⟨V1, hV1⟩ : ∃ x, PA.alloc (planB qA) = x := ⟨_, rfl⟩
    have hb : Below PA.heap.size PA V1 := by rw [← hV1]; exact below_new _ _
    have HRAV1 : Hid (V1.heap[PA.heap.size]? = some (planB qA)) := Lib.hid (by rw [← hV1]; exact heap_top _ _ rfl)
    have HXV1 := Lib.hid (heap_lft HXPA.out hb)
    have HIV1 := Lib.hid (heap_lft HIPA.out hb)
    have HJV1 := Lib.hid (heap_lft HJPA.out hb)
    have HTV1 := Lib.hid (heap_lft HTPA.out hb)
    have HPV1 := Lib.hid (HPPA.out.below hb)
    have HOV1 := Lib.hid (HOPA.out.below hb)
    have HBV1 := Lib.hid (below_thn HBPA.out hb)
    have HBL := Lib.hid hb
    try rw [hV1]
    clear hV1 hb
    have HLAV1 := HBL
    clear HBL
    have x0 := heap_cell HXV1.out (j := 0) rfl
    have x1 := heap_cell HXV1.out (j := 1) rfl
    have x2 := heap_cell HXV1.out (j := 2) rfl
    have x3 := heap_cell HXV1.out (j := 3) rfl
    have x4 := heap_cell HXV1.out (j := 4) rfl
    have x5 := heap_cell HXV1.out (j := 5) rfl
    have x6 := heap_cell HXV1.out (j := 6) rfl
    have i0 := heap_cell HIV1.out (j := 0) rfl
    have i1 := heap_cell HIV1.out (j := 1) rfl
    have i2 := heap_cell HIV1.out (j := 2) rfl
    have i3 := heap_cell HIV1.out (j := 3) rfl
    go_wp2_with fail
    refine (rSell_any p T A S i s l d (by have := HN.out; omega) (by have := HN.out; omega) (by have := HN.out; omega) HBA.out HBG.out HXB.out.1 HCC.out.2.1 HCC.out.2.2.2 _ HPV1.out).mono ?_
    rintro e1 PB hp
    replace hp : SellOut p T A S i s l d V1 e1 PB := hp
    obtain ⟨qB, codeB, he, hb, _⟩ := _root_.id hp
    subst he
    have HOB := Lib.hid hp
    clear hp x0 x1 x2 x3 x4 x5 x6 i0 i1 i2 i3
    have HSZB : Hid (V1.heap.size ≤ PB.heap.size) := Lib.hid hb.size
    have HXPB := Lib.hid (heap_lft HXV1.out hb)
    have HIPB := Lib.hid (heap_lft HIV1.out hb)
    have HJPB := Lib.hid (heap_lft HJV1.out hb)
    have HTPB := Lib.hid (heap_lft HTV1.out hb)
    have HRAPB := Lib.hid (heap_lft HRAV1.out hb)
    have HPPB := Lib.hid (HPV1.out.below hb)
    have HOPB := Lib.hid (HOV1.out.below hb)
    have HBPB := Lib.hid (below_thn HBV1.out hb)
    have HLAPB := Lib.hid (HLAV1.out.trans (hb.mono (HLAV1.out.size)))
    clear hb
    go_upto_region 6 with fail
    obtain ⟨V2, hV2⟩ : ∃ x, PB.alloc (planB qB) = x := ⟨_, rfl⟩
    have hb : Below PB.heap.size PB V2 := by rw [← hV2]; exact below_new _ _
    have HRBV2 : Hid (V2.heap[PB.heap.size]? = some (planB qB)) := Lib.hid (by rw [← hV2]; exact heap_top _ _ rfl)
    have HXV2 := Lib.hid (heap_lft HXPB.out hb)
    have HIV2 := Lib.hid (heap_lft HIPB.out hb)
    have HJV2 := Lib.hid (heap_lft HJPB.out hb)
    have HTV2 := Lib.hid (heap_lft HTPB.out hb)
    have HRAV2 := Lib.hid (heap_lft HRAPB.out hb)
    have HPV2 := Lib.hid (HPPB.out.below hb)
    have HOV2 := Lib.hid (HOPB.out.below hb)
    have HBV2 := Lib.hid (below_thn HBPB.out hb)
    have HBL := Lib.hid hb
    try rw [hV2]
    clear hV2 hb
    have HLBV2 := HBL
    clear HBL
    have HLAV2 := Lib.hid (HLAPB.out.trans (HLBV2.out.mono HLAPB.out.size))
    have x0 := heap_cell HTV2.out (j := 0) rfl
    have x1 := heap_cell HTV2.out (j := 1) rfl
    have x2 := heap_cell HTV2.out (j := 2) rfl
    have x3 := heap_cell HTV2.out (j := 3) rfl
    have x4 := heap_cell HTV2.out (j := 4) rfl
    have x5 := heap_cell HTV2.out (j := 5) rfl
    have x6 := heap_cell HTV2.out (j := 6) rfl
    go_wp2_with fail
    refine (refuse_any (p.moved a1 c1 a2 c2 a3 c3) T A S id (by have := HN.out; dsimp only; omega) (by have := HN.out; dsimp only; omega) (by have := HN.out; dsimp only; omega) HOV2.out.nil _ HOV2.out.at).mono ?_
    rintro e1 PC hp
    replace hp : RefuseOut p T A S id V2 e1 PC := hp
    obtain ⟨qC, codeC, he, hb, _⟩ := _root_.id hp
    subst he
    have HOC := Lib.hid hp
    clear hp x0 x1 x2 x3 x4 x5 x6
    have HSZC : Hid (V2.heap.size ≤ PC.heap.size) := Lib.hid hb.size
    have HXPC := Lib.hid (heap_lft HXV2.out hb)
    have HIPC := Lib.hid (heap_lft HIV2.out hb)
    have HJPC := Lib.hid (heap_lft HJV2.out hb)
    have HTPC := Lib.hid (heap_lft HTV2.out hb)
    have HRAPC := Lib.hid (heap_lft HRAV2.out hb)
    have HRBPC := Lib.hid (heap_lft HRBV2.out hb)
    have HPPC := Lib.hid (HPV2.out.below hb)
    have HOPC := Lib.hid (HOV2.out.below hb)
    have HBPC := Lib.hid (below_thn HBV2.out hb)
    have HLAPC := Lib.hid (HLAV2.out.trans (hb.mono (HLAV2.out.size)))
    have HLBPC := Lib.hid (HLBV2.out.trans (hb.mono (HLBV2.out.size)))
    clear hb
    go_upto_region 7 with fail
    obtain ⟨V3, hV3⟩ : ∃ x, PC.alloc (planB qC) = x := ⟨_, rfl⟩
    have hb : Below PC.heap.size PC V3 := by rw [← hV3]; exact below_new _ _
    have HRCV3 : Hid (V3.heap[PC.heap.size]? = some (planB qC)) := Lib.hid (by rw [← hV3]; exact heap_top _ _ rfl)
    have HXV3 := Lib.hid (heap_lft HXPC.out hb)
    have HIV3 := Lib.hid (heap_lft HIPC.out hb)
    have HJV3 := Lib.hid (heap_lft HJPC.out hb)
    have HTV3 := Lib.hid (heap_lft HTPC.out hb)
    have HRAV3 := Lib.hid (heap_lft HRAPC.out hb)
    have HRBV3 := Lib.hid (heap_lft HRBPC.out hb)
    have HPV3 := Lib.hid (HPPC.out.below hb)
    have HOV3 := Lib.hid (HOPC.out.below hb)
    have HBV3 := Lib.hid (below_thn HBPC.out hb)
    have HBL := Lib.hid hb
    try rw [hV3]
    clear hV3 hb
    have HLCV3 := HBL
    clear HBL
    have HLAV3 := Lib.hid (HLAPC.out.trans (HLCV3.out.mono HLAPC.out.size))
    have HLBV3 := Lib.hid (HLBPC.out.trans (HLCV3.out.mono HLBPC.out.size))
    have x0 := heap_cell HXV3.out (j := 0) rfl
    have x1 := heap_cell HXV3.out (j := 1) rfl
    have x2 := heap_cell HXV3.out (j := 2) rfl
    have x3 := heap_cell HXV3.out (j := 3) rfl
    have x4 := heap_cell HXV3.out (j := 4) rfl
    have x5 := heap_cell HXV3.out (j := 5) rfl
    have x6 := heap_cell HXV3.out (j := 6) rfl
    go_wp2_with fail
    refine (rRefuse_any p T A S id (by have := HN.out; omega) (by have := HN.out; omega) (by have := HN.out; omega) HBA.out HBG.out _ HPV3.out).mono ?_
    rintro e1 PD hp
    replace hp : RefuseOut p T A S id V3 e1 PD := hp
    obtain ⟨qD, codeD, he, hb, _⟩ := _root_.id hp
    subst he
    have HOD := Lib.hid hp
    clear hp x0 x1 x2 x3 x4 x5 x6
    have HSZD : Hid (V3.heap.size ≤ PD.heap.size) := Lib.hid hb.size
    have HXPD := Lib.hid (heap_lft HXV3.out hb)
    have HIPD := Lib.hid (heap_lft HIV3.out hb)
    have HJPD := Lib.hid (heap_lft HJV3.out hb)
    have HTPD := Lib.hid (heap_lft HTV3.out hb)
    have HRAPD := Lib.hid (heap_lft HRAV3.out hb)
    have HRBPD := Lib.hid (heap_lft HRBV3.out hb)
    have HRCPD := Lib.hid (heap_lft HRCV3.out hb)
    have HPPD := Lib.hid (HPV3.out.below hb)
    have HOPD := Lib.hid (HOV3.out.below hb)
    have HBPD := Lib.hid (below_thn HBV3.out hb)
    have HLAPD := Lib.hid (HLAV3.out.trans (hb.mono (HLAV3.out.size)))
    have HLBPD := Lib.hid (HLBV3.out.trans (hb.mono (HLBV3.out.size)))
    have HLCPD := Lib.hid (HLCV3.out.trans (hb.mono (HLCV3.out.size)))
    clear hb
    go_upto_region 8 with fail
    obtain ⟨V4, hV4⟩ : ∃ x, PD.alloc (planB qD) = x := ⟨_, rfl⟩
    have hb : Below PD.heap.size PD V4 := by rw [← hV4]; exact below_new _ _
    have HRDV4 : Hid (V4.heap[PD.heap.size]? = some (planB qD)) := Lib.hid (by rw [← hV4]; exact heap_top _ _ rfl)
    have HXV4 := Lib.hid (heap_lft HXPD.out hb)
    have HIV4 := Lib.hid (heap_lft HIPD.out hb)
    have HJV4 := Lib.hid (heap_lft HJPD.out hb)
    have HTV4 := Lib.hid (heap_lft HTPD.out hb)
    have HRAV4 := Lib.hid (heap_lft HRAPD.out hb)
    have HRBV4 := Lib.hid (heap_lft HRBPD.out hb)
    have HRCV4 := Lib.hid (heap_lft HRCPD.out hb)
    have HPV4 := Lib.hid (HPPD.out.below hb)
    have HOV4 := Lib.hid (HOPD.out.below hb)
    have HBV4 := Lib.hid (below_thn HBPD.out hb)
    have HBL := Lib.hid hb
    try rw [hV4]
    clear hV4 hb
    have HLDV4 := HBL
    clear HBL
    have HLAV4 := Lib.hid (HLAPD.out.trans (HLDV4.out.mono HLAPD.out.size))
    have HLBV4 := Lib.hid (HLBPD.out.trans (HLDV4.out.mono HLBPD.out.size))
    have HLCV4 := Lib.hid (HLCPD.out.trans (HLDV4.out.mono HLCPD.out.size))
    have x0 := heap_cell HTV4.out (j := 0) rfl
    have x1 := heap_cell HTV4.out (j := 1) rfl
    have x2 := heap_cell HTV4.out (j := 2) rfl
    have x3 := heap_cell HTV4.out (j := 3) rfl
    have x4 := heap_cell HTV4.out (j := 4) rfl
    have x5 := heap_cell HTV4.out (j := 5) rfl
    have x6 := heap_cell HTV4.out (j := 6) rfl
    have i0 := heap_cell HJV4.out (j := 0) rfl
    have i1 := heap_cell HJV4.out (j := 1) rfl
    go_wp2_with fail
    refine (land_any (p.moved a1 c1 a2 c2 a3 c3) T A S d2 l2 (by have := HN.out; dsimp only; omega) (by have := HN.out; dsimp only; omega) (by have := HN.out; dsimp only; omega) HOV4.out.nil _ HOV4.out.at).mono ?_
    rintro e1 PE hp
    replace hp : LandOut p T A S d2 l2 V4 e1 PE := hp
    obtain ⟨qE, codeE, he, hb, _⟩ := _root_.id hp
    subst he
    have HOE := Lib.hid hp
    clear hp x0 x1 x2 x3 x4 x5 x6 i0 i1
    have HSZE : Hid (V4.heap.size ≤ PE.heap.size) := Lib.hid hb.size
    have HXPE := Lib.hid (heap_lft HXV4.out hb)
    have HIPE := Lib.hid (heap_lft HIV4.out hb)
    have HJPE := Lib.hid (heap_lft HJV4.out hb)
    have HTPE := Lib.hid (heap_lft HTV4.out hb)
    have HRAPE := Lib.hid (heap_lft HRAV4.out hb)
    have HRBPE := Lib.hid (heap_lft HRBV4.out hb)
    have HRCPE := Lib.hid (heap_lft HRCV4.out hb)
    have HRDPE := Lib.hid (heap_lft HRDV4.out hb)
    have HPPE := Lib.hid (HPV4.out.below hb)
    have HOPE := Lib.hid (HOV4.out.below hb)
    have HBPE := Lib.hid (below_thn HBV4.out hb)
    have HLAPE := Lib.hid (HLAV4.out.trans (hb.mono (HLAV4.out.size)))
    have HLBPE := Lib.hid (HLBV4.out.trans (hb.mono (HLBV4.out.size)))
    have HLCPE := Lib.hid (HLCV4.out.trans (hb.mono (HLCV4.out.size)))
    have HLDPE := Lib.hid (HLDV4.out.trans (hb.mono (HLDV4.out.size)))
    clear hb
    go_upto_region 9 with fail
    obtain ⟨V5, hV5⟩ : ∃ x, PE.alloc (planB qE) = x := ⟨_, rfl⟩
    have hb : Below PE.heap.size PE V5 := by rw [← hV5]; exact below_new _ _
    have HREV5 : Hid (V5.heap[PE.heap.size]? = some (planB qE)) := Lib.hid (by rw [← hV5]; exact heap_top _ _ rfl)
    have HXV5 := Lib.hid (heap_lft HXPE.out hb)
    have HIV5 := Lib.hid (heap_lft HIPE.out hb)
    have HJV5 := Lib.hid (heap_lft HJPE.out hb)
    have HTV5 := Lib.hid (heap_lft HTPE.out hb)
    have HRAV5 := Lib.hid (heap_lft HRAPE.out hb)
    have HRBV5 := Lib.hid (heap_lft HRBPE.out hb)
    have HRCV5 := Lib.hid (heap_lft HRCPE.out hb)
    have HRDV5 := Lib.hid (heap_lft HRDPE.out hb)
    have HPV5 := Lib.hid (HPPE.out.below hb)
    have HOV5 := Lib.hid (HOPE.out.below hb)
    have HBV5 := Lib.hid (below_thn HBPE.out hb)
    have HBL := Lib.hid hb
    try rw [hV5]
    clear hV5 hb
    have HLEV5 := HBL
    clear HBL
    have HLAV5 := Lib.hid (HLAPE.out.trans (HLEV5.out.mono HLAPE.out.size))
    have HLBV5 := Lib.hid (HLBPE.out.trans (HLEV5.out.mono HLBPE.out.size))
    have HLCV5 := Lib.hid (HLCPE.out.trans (HLEV5.out.mono HLCPE.out.size))
    have HLDV5 := Lib.hid (HLDPE.out.trans (HLEV5.out.mono HLDPE.out.size))
    have x0 := heap_cell HXV5.out (j := 0) rfl
    have x1 := heap_cell HXV5.out (j := 1) rfl
    have x2 := heap_cell HXV5.out (j := 2) rfl
    have x3 := heap_cell HXV5.out (j := 3) rfl
    have x4 := heap_cell HXV5.out (j := 4) rfl
    have x5 := heap_cell HXV5.out (j := 5) rfl
    have x6 := heap_cell HXV5.out (j := 6) rfl
    have i0 := heap_cell HJV5.out (j := 0) rfl
    have i1 := heap_cell HJV5.out (j := 1) rfl
    go_wp2_with fail
    refine (rLand_any p T A S d2 l2 (by have := HN.out; omega) (by have := HN.out; omega) (by have := HN.out; omega) HBA.out HBG.out HXB.out.2 HCC.out.1 HCC.out.2.2.1 _ HPV5.out).mono ?_
    rintro e1 PF hp
    replace hp : LandOut p T A S d2 l2 V5 e1 PF := hp
    obtain ⟨qF, codeF, he, hb, _⟩ := _root_.id hp
    subst he
    have HOF := Lib.hid hp
    clear hp x0 x1 x2 x3 x4 x5 x6 i0 i1
    have HSZF : Hid (V5.heap.size ≤ PF.heap.size) := Lib.hid hb.size
    have HXPF := Lib.hid (heap_lft HXV5.out hb)
    have HIPF := Lib.hid (heap_lft HIV5.out hb)
    have HJPF := Lib.hid (heap_lft HJV5.out hb)
    have HTPF := Lib.hid (heap_lft HTV5.out hb)
    have HRAPF := Lib.hid (heap_lft HRAV5.out hb)
    have HRBPF := Lib.hid (heap_lft HRBV5.out hb)
    have HRCPF := Lib.hid (heap_lft HRCV5.out hb)
    have HRDPF := Lib.hid (heap_lft HRDV5.out hb)
    have HREPF := Lib.hid (heap_lft HREV5.out hb)
    have HPPF := Lib.hid (HPV5.out.below hb)
    have HOPF := Lib.hid (HOV5.out.below hb)
    have HBPF := Lib.hid (below_thn HBV5.out hb)
    have HLAPF := Lib.hid (HLAV5.out.trans (hb.mono (HLAV5.out.size)))
    have HLBPF := Lib.hid (HLBV5.out.trans (hb.mono (HLBV5.out.size)))
    have HLCPF := Lib.hid (HLCV5.out.trans (hb.mono (HLCV5.out.size)))
    have HLDPF := Lib.hid (HLDV5.out.trans (hb.mono (HLDV5.out.size)))
    have HLEPF := Lib.hid (HLEV5.out.trans (hb.mono (HLEV5.out.size)))
    clear hb
    go_upto_region 10 with fail
    obtain ⟨V6, hV6⟩ : ∃ x, PF.alloc (planB qF) = x := ⟨_, rfl⟩
    have hb : Below PF.heap.size PF V6 := by rw [← hV6]; exact below_new _ _
    have HRFV6 : Hid (V6.heap[PF.heap.size]? = some (planB qF)) := Lib.hid (by rw [← hV6]; exact heap_top _ _ rfl)
    have HXV6 := Lib.hid (heap_lft HXPF.out hb)
    have HIV6 := Lib.hid (heap_lft HIPF.out hb)
    have HJV6 := Lib.hid (heap_lft HJPF.out hb)
    have HTV6 := Lib.hid (heap_lft HTPF.out hb)
    have HRAV6 := Lib.hid (heap_lft HRAPF.out hb)
    have HRBV6 := Lib.hid (heap_lft HRBPF.out hb)
    have HRCV6 := Lib.hid (heap_lft HRCPF.out hb)
    have HRDV6 := Lib.hid (heap_lft HRDPF.out hb)
    have HREV6 := Lib.hid (heap_lft HREPF.out hb)
    have HPV6 := Lib.hid (HPPF.out.below hb)
    have HOV6 := Lib.hid (HOPF.out.below hb)
    have HBV6 := Lib.hid (below_thn HBPF.out hb)
    have HBL := Lib.hid hb
    try rw [hV6]
    clear hV6 hb
    have HLFV6 := HBL
    clear HBL
    have HLAV6 := Lib.hid (HLAPF.out.trans (HLFV6.out.mono HLAPF.out.size))
    have HLBV6 := Lib.hid (HLBPF.out.trans (HLFV6.out.mono HLBPF.out.size))
    have HLCV6 := Lib.hid (HLCPF.out.trans (HLFV6.out.mono HLCPF.out.size))
    have HLDV6 := Lib.hid (HLDPF.out.trans (HLFV6.out.mono HLDPF.out.size))
    have HLEV6 := Lib.hid (HLEPF.out.trans (HLFV6.out.mono HLEPF.out.size))
    obtain ⟨TA, AA, SA, xA1, yA1, xA2, yA2, xA3, yA3, rfl, rfl, tA, nA, mA, hoA, hoB⟩ := HOA.out.same HOB.out
    have HNA : Hid (qA.tn ≤ 40 ∧ qA.an ≤ 40 ∧ qA.sn ≤ 40) := Lib.hid (by have := HN.out; omega)
    have HWA := Lib.hid (hoA.below HLAV6.out)
    have HWB := Lib.hid (hoB.below HLBV6.out)
    clear tA nA mA hoA hoB
    obtain ⟨TC, AC, SC, xC1, yC1, xC2, yC2, xC3, yC3, rfl, rfl, tC, nC, mC, hoC, hoD⟩ := HOC.out.same HOD.out
    have HNC : Hid (qC.tn ≤ 40 ∧ qC.an ≤ 40 ∧ qC.sn ≤ 40) := Lib.hid (by have := HN.out; omega)
    have HWC := Lib.hid (hoC.below HLCV6.out)
    have HWD := Lib.hid (hoD.below HLDV6.out)
    clear tC nC mC hoC hoD
    obtain ⟨TE, AE, SE, xE1, yE1, xE2, yE2, xE3, yE3, rfl, rfl, tE, nE, mE, hoE, hoF⟩ := HOE.out.same HOF.out
    have HNE : Hid (qE.tn ≤ 40 ∧ qE.an ≤ 40 ∧ qE.sn ≤ 40) := Lib.hid (by have := HN.out; omega)
    have HWE := Lib.hid (hoE.below HLEV6.out)
    have HWF := Lib.hid (hoF.below HLFV6.out)
    clear tE nE mE hoE hoF
    have x0 := heap_cell HRAV6.out (j := 0) rfl
    have x1 := heap_cell HRAV6.out (j := 1) rfl
    have x2 := heap_cell HRAV6.out (j := 2) rfl
    have x3 := heap_cell HRAV6.out (j := 3) rfl
    have x4 := heap_cell HRAV6.out (j := 4) rfl
    have x5 := heap_cell HRAV6.out (j := 5) rfl
    have x6 := heap_cell HRAV6.out (j := 6) rfl
    have y0 := heap_cell HRBV6.out (j := 0) rfl
    have y1 := heap_cell HRBV6.out (j := 1) rfl
    have y2 := heap_cell HRBV6.out (j := 2) rfl
    have y3 := heap_cell HRBV6.out (j := 3) rfl
    have y4 := heap_cell HRBV6.out (j := 4) rfl
    have y5 := heap_cell HRBV6.out (j := 5) rfl
    have y6 := heap_cell HRBV6.out (j := 6) rfl
    go_wp2_with fail
    refine (same_true qA xA1 yA1 xA2 yA2 xA3 yA3 TA AA SA HNA.out.1 HNA.out.2.1 HNA.out.2.2 _ HWA.out.at HWB.out.at).mono ?_
    rintro e1 S1 ⟨rfl, hb⟩
    have HL6S1 : Hid (Below V6.heap.size V6 S1) := Lib.hid (hb)
    clear hb x0 x1 x2 x3 x4 x5 x6 y0 y1 y2 y3 y4 y5 y6
    have HRCS1 := Lib.hid (heap_lft HRCV6.out HL6S1.out)
    have HRDS1 := Lib.hid (heap_lft HRDV6.out HL6S1.out)
    have x0 := heap_cell HRCS1.out (j := 0) rfl
    have x1 := heap_cell HRCS1.out (j := 1) rfl
    have x2 := heap_cell HRCS1.out (j := 2) rfl
    have x3 := heap_cell HRCS1.out (j := 3) rfl
    have x4 := heap_cell HRCS1.out (j := 4) rfl
    have x5 := heap_cell HRCS1.out (j := 5) rfl
    have x6 := heap_cell HRCS1.out (j := 6) rfl
    have y0 := heap_cell HRDS1.out (j := 0) rfl
    have y1 := heap_cell HRDS1.out (j := 1) rfl
    have y2 := heap_cell HRDS1.out (j := 2) rfl
    have y3 := heap_cell HRDS1.out (j := 3) rfl
    have y4 := heap_cell HRDS1.out (j := 4) rfl
    have y5 := heap_cell HRDS1.out (j := 5) rfl
    have y6 := heap_cell HRDS1.out (j := 6) rfl
    go_wp2_with fail
    refine (same_true qC xC1 yC1 xC2 yC2 xC3 yC3 TC AC SC HNC.out.1 HNC.out.2.1 HNC.out.2.2 _ (HWC.out.below HL6S1.out).at (HWD.out.below HL6S1.out).at).mono ?_
    rintro e1 S2 ⟨rfl, hb⟩
    have HL6S2 : Hid (Below V6.heap.size V6 S2) := Lib.hid (below_thn HL6S1.out hb)
    clear hb x0 x1 x2 x3 x4 x5 x6 y0 y1 y2 y3 y4 y5 y6
    have HRES2 := Lib.hid (heap_lft HREV6.out HL6S2.out)
    have HRFS2 := Lib.hid (heap_lft HRFV6.out HL6S2.out)
    have x0 := heap_cell HRES2.out (j := 0) rfl
    have x1 := heap_cell HRES2.out (j := 1) rfl
    have x2 := heap_cell HRES2.out (j := 2) rfl
    have x3 := heap_cell HRES2.out (j := 3) rfl
    have x4 := heap_cell HRES2.out (j := 4) rfl
    have x5 := heap_cell HRES2.out (j := 5) rfl
    have x6 := heap_cell HRES2.out (j := 6) rfl
    have y0 := heap_cell HRFS2.out (j := 0) rfl
    have y1 := heap_cell HRFS2.out (j := 1) rfl
    have y2 := heap_cell HRFS2.out (j := 2) rfl
    have y3 := heap_cell HRFS2.out (j := 3) rfl
    have y4 := heap_cell HRFS2.out (j := 4) rfl
    have y5 := heap_cell HRFS2.out (j := 5) rfl
    have y6 := heap_cell HRFS2.out (j := 6) rfl
    go_wp2_with fail
    refine (same_true qE xE1 yE1 xE2 yE2 xE3 yE3 TE AE SE HNE.out.1 HNE.out.2.1 HNE.out.2.2 _ (HWE.out.below HL6S2.out).at (HWF.out.below HL6S2.out).at).mono ?_
    rintro e1 S3 ⟨rfl, hb⟩
    have HL6S3 : Hid (Below V6.heap.size V6 S3) := Lib.hid (below_thn HL6S2.out hb)
    clear hb x0 x1 x2 x3 x4 x5 x6 y0 y1 y2 y3 y4 y5 y6
    have HRAS3 := Lib.hid (heap_lft HRAV6.out HL6S3.out)
    have HWA3 := Lib.hid (HWA.out.below HL6S3.out)
    have HRCS3 := Lib.hid (heap_lft HRCV6.out HL6S3.out)
    have HWC3 := Lib.hid (HWC.out.below HL6S3.out)
    have HRES3 := Lib.hid (heap_lft HREV6.out HL6S3.out)
    have HWE3 := Lib.hid (HWE.out.below HL6S3.out)
    have x0 := heap_cell HRAS3.out (j := 0) rfl
    have x1 := heap_cell HRAS3.out (j := 1) rfl
    have x2 := heap_cell HRAS3.out (j := 2) rfl
    have x3 := heap_cell HRAS3.out (j := 3) rfl
    have x4 := heap_cell HRAS3.out (j := 4) rfl
    have x5 := heap_cell HRAS3.out (j := 5) rfl
    have x6 := heap_cell HRAS3.out (j := 6) rfl
    have y0 := heap_cell HRCS3.out (j := 0) rfl
    have y1 := heap_cell HRCS3.out (j := 1) rfl
    have y2 := heap_cell HRCS3.out (j := 2) rfl
    have y3 := heap_cell HRCS3.out (j := 3) rfl
    have y4 := heap_cell HRCS3.out (j := 4) rfl
    have y5 := heap_cell HRCS3.out (j := 5) rfl
    have y6 := heap_cell HRCS3.out (j := 6) rfl
    have z0 := heap_cell HRES3.out (j := 0) rfl
    have z1 := heap_cell HRES3.out (j := 1) rfl
    have z2 := heap_cell HRES3.out (j := 2) rfl
    have z3 := heap_cell HRES3.out (j := 3) rfl
    have z4 := heap_cell HRES3.out (j := 4) rfl
    have z5 := heap_cell HRES3.out (j := 5) rfl
    have z6 := heap_cell HRES3.out (j := 6) rfl
    go_upto_region 12 with fail
    obtain ⟨V7, hV7⟩ : ∃ x, S3.alloc (Obj.cells #[Value.int .i64 qA.fr, .slice qA.ta qA.tn qA.tc, .int .i64 qA.sd, .int .i64 qA.ck, .slice qA.aa qA.an qA.ac, .slice qA.sa qA.sn qA.sc, .int .i64 qA.bu, Value.int .i64 qC.fr, .slice qC.ta qC.tn qC.tc, .int .i64 qC.sd, .int .i64 qC.ck, .slice qC.aa qC.an qC.ac, .slice qC.sa qC.sn qC.sc, .int .i64 qC.bu, Value.int .i64 qE.fr, .slice qE.ta qE.tn qE.tc, .int .i64 qE.sd, .int .i64 qE.ck, .slice qE.aa qE.an qE.ac, .slice qE.sa qE.sn qE.sc, .int .i64 qE.bu] 26) = x := ⟨_, rfl⟩
    have hb : Below S3.heap.size S3 V7 := by rw [← hV7]; exact below_new _ _
    have HLL : Hid (V7.heap[S3.heap.size]? = some (Obj.cells #[Value.int .i64 qA.fr, .slice qA.ta qA.tn qA.tc, .int .i64 qA.sd, .int .i64 qA.ck, .slice qA.aa qA.an qA.ac, .slice qA.sa qA.sn qA.sc, .int .i64 qA.bu, Value.int .i64 qC.fr, .slice qC.ta qC.tn qC.tc, .int .i64 qC.sd, .int .i64 qC.ck, .slice qC.aa qC.an qC.ac, .slice qC.sa qC.sn qC.sc, .int .i64 qC.bu, Value.int .i64 qE.fr, .slice qE.ta qE.tn qE.tc, .int .i64 qE.sd, .int .i64 qE.ck, .slice qE.aa qE.an qE.ac, .slice qE.sa qE.sn qE.sc, .int .i64 qE.bu] 26)) := Lib.hid (by rw [← hV7]; exact heap_top _ _ rfl)
    have z1 : V0.heap.size ≤ PA.heap.size := HSZA.out
    have z2 : V0.heap.size ≤ V2.heap.size := Nat.le_trans z1 HLAV2.out.size
    have z3 : V0.heap.size ≤ V4.heap.size := Nat.le_trans z1 HLAV4.out.size
    have HB07 : Hid (Below V0.heap.size V0 V7) := Lib.hid ((HB0PA.out.trans (HLAV6.out.mono z1)).trans ((HL6S3.out.mono (Nat.le_trans z1 HLAV6.out.size)).trans (hb.mono (Nat.le_trans z1 (Nat.le_trans HLAV6.out.size HL6S3.out.size)))))
    have HRW : Hid (RowOk V7 V0.heap.size S3.heap.size 1 qA.ta qA.tn ∧ RowOk V7 V0.heap.size S3.heap.size 2 qA.aa qA.an ∧ RowOk V7 V0.heap.size S3.heap.size 4 qA.sa qA.sn ∧ RowOk V7 V0.heap.size S3.heap.size 1 qC.ta qC.tn ∧ RowOk V7 V0.heap.size S3.heap.size 2 qC.aa qC.an ∧ RowOk V7 V0.heap.size S3.heap.size 4 qC.sa qC.sn ∧ RowOk V7 V0.heap.size S3.heap.size 1 qE.ta qE.tn ∧ RowOk V7 V0.heap.size S3.heap.size 2 qE.aa qE.an ∧ RowOk V7 V0.heap.size S3.heap.size 4 qE.sa qE.sn) := Lib.hid ⟨((OwnNums.base HWA3.out.t (Nat.le_refl _)).row).below hb, ((OwnNums.base HWA3.out.a (Nat.le_refl _)).row).below hb, ((OwnNums.base HWA3.out.s (Nat.le_refl _)).row).below hb, ((OwnNums.base HWC3.out.t z2).row).below hb, ((OwnNums.base HWC3.out.a z2).row).below hb, ((OwnNums.base HWC3.out.s z2).row).below hb, ((OwnNums.base HWE3.out.t z3).row).below hb, ((OwnNums.base HWE3.out.a z3).row).below hb, ((OwnNums.base HWE3.out.s z3).row).below hb⟩
    try rw [hV7]
    clear hV7 hb z1 z2 z3 x0 x1 x2 x3 x4 x5 x6 y0 y1 y2 y3 y4 y5 y6 z0 z4 z5 z6
    go_loopw [24, 98] (fun _ i wr => ∃ k : Nat, k ≤ 3 ∧ i = .int .i64 k ∧ wr.heap[S3.heap.size]? = some (Obj.cells #[Value.int .i64 qA.fr, .slice qA.ta qA.tn qA.tc, .int .i64 qA.sd, .int .i64 qA.ck, .slice qA.aa qA.an qA.ac, .slice qA.sa qA.sn qA.sc, .int .i64 qA.bu, Value.int .i64 qC.fr, .slice qC.ta qC.tn qC.tc, .int .i64 qC.sd, .int .i64 qC.ck, .slice qC.aa qC.an qC.ac, .slice qC.sa qC.sn qC.sc, .int .i64 qC.bu, Value.int .i64 qE.fr, .slice qE.ta qE.tn qE.tc, .int .i64 qE.sd, .int .i64 qE.ck, .slice qE.aa qE.an qE.ac, .slice qE.sa qE.sn qE.sc, .int .i64 qE.bu] 26) ∧ (RowOk wr V0.heap.size S3.heap.size 1 qA.ta qA.tn ∧ RowOk wr V0.heap.size S3.heap.size 2 qA.aa qA.an ∧ RowOk wr V0.heap.size S3.heap.size 4 qA.sa qA.sn ∧ RowOk wr V0.heap.size S3.heap.size 1 qC.ta qC.tn ∧ RowOk wr V0.heap.size S3.heap.size 2 qC.aa qC.an ∧ RowOk wr V0.heap.size S3.heap.size 4 qC.sa qC.sn ∧ RowOk wr V0.heap.size S3.heap.size 1 qE.ta qE.tn ∧ RowOk wr V0.heap.size S3.heap.size 2 qE.aa qE.an ∧ RowOk wr V0.heap.size S3.heap.size 4 qE.sa qE.sn) ∧ Below V0.heap.size V0 wr) (fun _ i _ => 3 - (intOf i).toNat)
    case atStart => exact ⟨0, by omega, rfl, HLL.out, HRW.out, HB07.out⟩
    case round =>
      obtain ⟨k, hk, rfl, hl, hr, hb⟩ := hrel
      have HLk := Lib.hid hl
      have HRk := Lib.hid hr
      have HBk := Lib.hid hb
      have HLT := Lib.hid (Array.getElem?_eq_some_iff.1 hl).1
      clear hl hr hb
      have hk3 : k = 0 ∨ k = 1 ∨ k = 2 ∨ k = 3 := by omega
      rcases hk3 with rfl | rfl | rfl | rfl
      · have l0 := heap_cell HLk.out (j := 0) rfl
        have l1 := heap_cell HLk.out (j := 1) rfl
        have l2 := heap_cell HLk.out (j := 2) rfl
        have l3 := heap_cell HLk.out (j := 3) rfl
        have l4 := heap_cell HLk.out (j := 4) rfl
        have l5 := heap_cell HLk.out (j := 5) rfl
        have l6 := heap_cell HLk.out (j := 6) rfl
        go_upto_region 14 with fail
        obtain ⟨U, hU⟩ : ∃ x, wr.alloc (planB qA) = x := ⟨_, rfl⟩
        have hb : Below wr.heap.size wr U := by rw [← hU]; exact below_new _ _
        have HZU : Hid (U.heap[wr.heap.size]? = some (planB qA)) := Lib.hid (by rw [← hU]; exact heap_top _ _ rfl)
        have HLU := Lib.hid (heap_lft HLk.out hb)
        have HRU : Hid (RowOk U V0.heap.size S3.heap.size 1 qA.ta qA.tn ∧ RowOk U V0.heap.size S3.heap.size 2 qA.aa qA.an ∧ RowOk U V0.heap.size S3.heap.size 4 qA.sa qA.sn ∧ RowOk U V0.heap.size S3.heap.size 1 qC.ta qC.tn ∧ RowOk U V0.heap.size S3.heap.size 2 qC.aa qC.an ∧ RowOk U V0.heap.size S3.heap.size 4 qC.sa qC.sn ∧ RowOk U V0.heap.size S3.heap.size 1 qE.ta qE.tn ∧ RowOk U V0.heap.size S3.heap.size 2 qE.aa qE.an ∧ RowOk U V0.heap.size S3.heap.size 4 qE.sa qE.sn) := Lib.hid ⟨(HRk.out.1).below hb, (HRk.out.2.1).below hb, (HRk.out.2.2.1).below hb, (HRk.out.2.2.2.1).below hb, (HRk.out.2.2.2.2.1).below hb, (HRk.out.2.2.2.2.2.1).below hb, (HRk.out.2.2.2.2.2.2.1).below hb, (HRk.out.2.2.2.2.2.2.2.1).below hb, (HRk.out.2.2.2.2.2.2.2.2).below hb⟩
        have HBU := Lib.hid (below_thn HBk.out hb)
        have hsu : S3.heap.size < U.heap.size := Nat.lt_of_lt_of_le HLT.out hb.size
        have HSU := Lib.hid hsu
        try rw [hU]
        clear hU hb l0 l1 l2 l3 l4 l5 l6 hsu
        have x0 := heap_cell HZU.out (j := 0) rfl
        have x1 := heap_cell HZU.out (j := 1) rfl
        have x2 := heap_cell HZU.out (j := 2) rfl
        have x3 := heap_cell HZU.out (j := 3) rfl
        have x4 := heap_cell HZU.out (j := 4) rfl
        have x5 := heap_cell HZU.out (j := 5) rfl
        have x6 := heap_cell HZU.out (j := 6) rfl
        go_wp2_with fail
        refine (spoil_any qA V0.heap.size HNA.out.1 HNA.out.2.1 HNA.out.2.2 _ (by have := HBU.out.size; omega) (HRU.out.1.top (Nat.le_of_lt HSU.out)) (HRU.out.2.1.top (Nat.le_of_lt HSU.out)) (HRU.out.2.2.1.top (Nat.le_of_lt HSU.out))).mono ?_
        rintro e1 M ⟨⟨v, rfl⟩, hwr⟩
        have HWR := Lib.hid hwr
        clear hwr x0 x1 x2 x3 x4 x5 x6
        go_wp2_with fail
        go_roundw
        case rel => exact ⟨1, by omega, rfl, HWR.out.keep HLU.out (HRU.out.1) (HRU.out.2.1) (HRU.out.2.2.1), ⟨HWR.out.rows (HRU.out.1), HWR.out.rows (HRU.out.2.1), HWR.out.rows (HRU.out.2.2.1), HWR.out.rows (HRU.out.2.2.2.1), HWR.out.rows (HRU.out.2.2.2.2.1), HWR.out.rows (HRU.out.2.2.2.2.2.1), HWR.out.rows (HRU.out.2.2.2.2.2.2.1), HWR.out.rows (HRU.out.2.2.2.2.2.2.2.1), HWR.out.rows (HRU.out.2.2.2.2.2.2.2.2)⟩, HBU.out.trans HWR.out.b⟩
        case measure => simp [intOf]
      · have l7 := heap_cell HLk.out (j := 7) rfl
        have l8 := heap_cell HLk.out (j := 8) rfl
        have l9 := heap_cell HLk.out (j := 9) rfl
        have l10 := heap_cell HLk.out (j := 10) rfl
        have l11 := heap_cell HLk.out (j := 11) rfl
        have l12 := heap_cell HLk.out (j := 12) rfl
        have l13 := heap_cell HLk.out (j := 13) rfl
        go_upto_region 14 with fail
        obtain ⟨U, hU⟩ : ∃ x, wr.alloc (planB qC) = x := ⟨_, rfl⟩
        have hb : Below wr.heap.size wr U := by rw [← hU]; exact below_new _ _
        have HZU : Hid (U.heap[wr.heap.size]? = some (planB qC)) := Lib.hid (by rw [← hU]; exact heap_top _ _ rfl)
        have HLU := Lib.hid (heap_lft HLk.out hb)
        have HRU : Hid (RowOk U V0.heap.size S3.heap.size 1 qA.ta qA.tn ∧ RowOk U V0.heap.size S3.heap.size 2 qA.aa qA.an ∧ RowOk U V0.heap.size S3.heap.size 4 qA.sa qA.sn ∧ RowOk U V0.heap.size S3.heap.size 1 qC.ta qC.tn ∧ RowOk U V0.heap.size S3.heap.size 2 qC.aa qC.an ∧ RowOk U V0.heap.size S3.heap.size 4 qC.sa qC.sn ∧ RowOk U V0.heap.size S3.heap.size 1 qE.ta qE.tn ∧ RowOk U V0.heap.size S3.heap.size 2 qE.aa qE.an ∧ RowOk U V0.heap.size S3.heap.size 4 qE.sa qE.sn) := Lib.hid ⟨(HRk.out.1).below hb, (HRk.out.2.1).below hb, (HRk.out.2.2.1).below hb, (HRk.out.2.2.2.1).below hb, (HRk.out.2.2.2.2.1).below hb, (HRk.out.2.2.2.2.2.1).below hb, (HRk.out.2.2.2.2.2.2.1).below hb, (HRk.out.2.2.2.2.2.2.2.1).below hb, (HRk.out.2.2.2.2.2.2.2.2).below hb⟩
        have HBU := Lib.hid (below_thn HBk.out hb)
        have hsu : S3.heap.size < U.heap.size := Nat.lt_of_lt_of_le HLT.out hb.size
        have HSU := Lib.hid hsu
        try rw [hU]
        clear hU hb l7 l8 l9 l10 l11 l12 l13 hsu
        have x0 := heap_cell HZU.out (j := 0) rfl
        have x1 := heap_cell HZU.out (j := 1) rfl
        have x2 := heap_cell HZU.out (j := 2) rfl
        have x3 := heap_cell HZU.out (j := 3) rfl
        have x4 := heap_cell HZU.out (j := 4) rfl
        have x5 := heap_cell HZU.out (j := 5) rfl
        have x6 := heap_cell HZU.out (j := 6) rfl
        go_wp2_with fail
        refine (spoil_any qC V0.heap.size HNC.out.1 HNC.out.2.1 HNC.out.2.2 _ (by have := HBU.out.size; omega) (HRU.out.2.2.2.1.top (Nat.le_of_lt HSU.out)) (HRU.out.2.2.2.2.1.top (Nat.le_of_lt HSU.out)) (HRU.out.2.2.2.2.2.1.top (Nat.le_of_lt HSU.out))).mono ?_
        rintro e1 M ⟨⟨v, rfl⟩, hwr⟩
        have HWR := Lib.hid hwr
        clear hwr x0 x1 x2 x3 x4 x5 x6
        go_wp2_with fail
        go_roundw
        case rel => exact ⟨2, by omega, rfl, HWR.out.keep HLU.out (HRU.out.2.2.2.1) (HRU.out.2.2.2.2.1) (HRU.out.2.2.2.2.2.1), ⟨HWR.out.rows (HRU.out.1), HWR.out.rows (HRU.out.2.1), HWR.out.rows (HRU.out.2.2.1), HWR.out.rows (HRU.out.2.2.2.1), HWR.out.rows (HRU.out.2.2.2.2.1), HWR.out.rows (HRU.out.2.2.2.2.2.1), HWR.out.rows (HRU.out.2.2.2.2.2.2.1), HWR.out.rows (HRU.out.2.2.2.2.2.2.2.1), HWR.out.rows (HRU.out.2.2.2.2.2.2.2.2)⟩, HBU.out.trans HWR.out.b⟩
        case measure => simp [intOf]
      · have l14 := heap_cell HLk.out (j := 14) rfl
        have l15 := heap_cell HLk.out (j := 15) rfl
        have l16 := heap_cell HLk.out (j := 16) rfl
        have l17 := heap_cell HLk.out (j := 17) rfl
        have l18 := heap_cell HLk.out (j := 18) rfl
        have l19 := heap_cell HLk.out (j := 19) rfl
        have l20 := heap_cell HLk.out (j := 20) rfl
        go_upto_region 14 with fail
        obtain ⟨U, hU⟩ : ∃ x, wr.alloc (planB qE) = x := ⟨_, rfl⟩
        have hb : Below wr.heap.size wr U := by rw [← hU]; exact below_new _ _
        have HZU : Hid (U.heap[wr.heap.size]? = some (planB qE)) := Lib.hid (by rw [← hU]; exact heap_top _ _ rfl)
        have HLU := Lib.hid (heap_lft HLk.out hb)
        have HRU : Hid (RowOk U V0.heap.size S3.heap.size 1 qA.ta qA.tn ∧ RowOk U V0.heap.size S3.heap.size 2 qA.aa qA.an ∧ RowOk U V0.heap.size S3.heap.size 4 qA.sa qA.sn ∧ RowOk U V0.heap.size S3.heap.size 1 qC.ta qC.tn ∧ RowOk U V0.heap.size S3.heap.size 2 qC.aa qC.an ∧ RowOk U V0.heap.size S3.heap.size 4 qC.sa qC.sn ∧ RowOk U V0.heap.size S3.heap.size 1 qE.ta qE.tn ∧ RowOk U V0.heap.size S3.heap.size 2 qE.aa qE.an ∧ RowOk U V0.heap.size S3.heap.size 4 qE.sa qE.sn) := Lib.hid ⟨(HRk.out.1).below hb, (HRk.out.2.1).below hb, (HRk.out.2.2.1).below hb, (HRk.out.2.2.2.1).below hb, (HRk.out.2.2.2.2.1).below hb, (HRk.out.2.2.2.2.2.1).below hb, (HRk.out.2.2.2.2.2.2.1).below hb, (HRk.out.2.2.2.2.2.2.2.1).below hb, (HRk.out.2.2.2.2.2.2.2.2).below hb⟩
        have HBU := Lib.hid (below_thn HBk.out hb)
        have hsu : S3.heap.size < U.heap.size := Nat.lt_of_lt_of_le HLT.out hb.size
        have HSU := Lib.hid hsu
        try rw [hU]
        clear hU hb l14 l15 l16 l17 l18 l19 l20 hsu
        have x0 := heap_cell HZU.out (j := 0) rfl
        have x1 := heap_cell HZU.out (j := 1) rfl
        have x2 := heap_cell HZU.out (j := 2) rfl
        have x3 := heap_cell HZU.out (j := 3) rfl
        have x4 := heap_cell HZU.out (j := 4) rfl
        have x5 := heap_cell HZU.out (j := 5) rfl
        have x6 := heap_cell HZU.out (j := 6) rfl
        go_wp2_with fail
        refine (spoil_any qE V0.heap.size HNE.out.1 HNE.out.2.1 HNE.out.2.2 _ (by have := HBU.out.size; omega) (HRU.out.2.2.2.2.2.2.1.top (Nat.le_of_lt HSU.out)) (HRU.out.2.2.2.2.2.2.2.1.top (Nat.le_of_lt HSU.out)) (HRU.out.2.2.2.2.2.2.2.2.top (Nat.le_of_lt HSU.out))).mono ?_
        rintro e1 M ⟨⟨v, rfl⟩, hwr⟩
        have HWR := Lib.hid hwr
        clear hwr x0 x1 x2 x3 x4 x5 x6
        go_wp2_with fail
        go_roundw
        case rel => exact ⟨3, by omega, rfl, HWR.out.keep HLU.out (HRU.out.2.2.2.2.2.2.1) (HRU.out.2.2.2.2.2.2.2.1) (HRU.out.2.2.2.2.2.2.2.2), ⟨HWR.out.rows (HRU.out.1), HWR.out.rows (HRU.out.2.1), HWR.out.rows (HRU.out.2.2.1), HWR.out.rows (HRU.out.2.2.2.1), HWR.out.rows (HRU.out.2.2.2.2.1), HWR.out.rows (HRU.out.2.2.2.2.2.1), HWR.out.rows (HRU.out.2.2.2.2.2.2.1), HWR.out.rows (HRU.out.2.2.2.2.2.2.2.1), HWR.out.rows (HRU.out.2.2.2.2.2.2.2.2)⟩, HBU.out.trans HWR.out.b⟩
        case measure => simp [intOf]
      · have HT9 := Lib.hid (heap_lft HTV0.out HBk.out)
        have HX9 := Lib.hid (heap_lft HXV0.out HBk.out)
        have HO9 := Lib.hid (HOV0.out.below HBk.out)
        have HP9 := Lib.hid (HPV0.out.below HBk.out)
        have x0 := heap_cell HX9.out (j := 0) rfl
        have x1 := heap_cell HX9.out (j := 1) rfl
        have x2 := heap_cell HX9.out (j := 2) rfl
        have x3 := heap_cell HX9.out (j := 3) rfl
        have x4 := heap_cell HX9.out (j := 4) rfl
        have x5 := heap_cell HX9.out (j := 5) rfl
        have x6 := heap_cell HX9.out (j := 6) rfl
        have y0 := heap_cell HT9.out (j := 0) rfl
        have y1 := heap_cell HT9.out (j := 1) rfl
        have y2 := heap_cell HT9.out (j := 2) rfl
        have y3 := heap_cell HT9.out (j := 3) rfl
        have y4 := heap_cell HT9.out (j := 4) rfl
        have y5 := heap_cell HT9.out (j := 5) rfl
        have y6 := heap_cell HT9.out (j := 6) rfl
        go_wp2_with fail
        refine (same_true (p.moved a1 c1 a2 c2 a3 c3) p.ta p.tc p.aa p.ac p.sa p.sc T A S (by have := HN.out; dsimp only; omega) (by have := HN.out; dsimp only; omega) (by have := HN.out; dsimp only; omega) _ HO9.out.at HP9.out).mono ?_
        rintro e1 V9 ⟨rfl, hb⟩
        have HB9 := Lib.hid (below_thn (below_thn HBV0.out HBk.out) hb)
        clear hb x0 x1 x2 x3 x4 x5 x6 y0 y1 y2 y3 y4 y5 y6
        go_wp2_with fail
        go_ret
        exact ⟨rfl, HB9.out⟩
  · have HG : Hid (Below w.heap.size w W1) := HBW1
    clear hg
    go_wp2_with fail
    go_ret
    exact ⟨rfl, HG.out⟩

end Go.Proofs.Ytknpdjbokgenpaa
