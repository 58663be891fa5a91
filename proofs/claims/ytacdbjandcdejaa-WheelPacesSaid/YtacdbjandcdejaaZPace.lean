/-
  The contract of Paced.
-/
import Derived.Test.YtacdbjandcdejaaZWater
import Derived.Test.YtacdbjandcdejaaZTurns
import Derived.Test.YtacdbjandcdejaaVErr
import Derived.Test.YtacdbjandcdejaaRestF
import Derived.Test.YtacdbjandcdejaaZTail
namespace Go.Proofs.Ytacdbjandcdejaa
open Go.RowKit

namespace Pure
def paceG (T X : Nat → Int) (P Q : Nat) (b : Int) (k : Nat) : Nat → Int := fun j => if j < k then (if turnV (X j) P Q b < T j then turnV (X j) P Q b else T j) else T j
theorem paceG_put (T X : Nat → Int) (P Q : Nat) (b : Int) (k : Nat) : paceG T X P Q b (k + 1) = fun q => if q = k then (if turnV (X k) P Q b < T k then turnV (X k) P Q b else T k) else paceG T X P Q b k q := by
  funext j
  unfold paceG
  by_cases e : j = k
  · subst e
    rw [if_pos (by omega), if_pos rfl]
  · rw [if_neg e]
    by_cases h : j < k
    · rw [if_pos h, if_pos (by omega)]
    · rw [if_neg h, if_neg (by omega)]
theorem paceG_at (T X : Nat → Int) (P Q : Nat) (b : Int) (k : Nat) : paceG T X P Q b k k = T k := if_neg (Nat.lt_irrefl k)
theorem paceG_zero (T X : Nat → Int) (P Q : Nat) (b : Int) : paceG T X P Q b 0 = T := by
  funext j
  exact if_neg (Nat.not_lt_zero j)
def paceC (p : PlanX) (T A S : Nat → Int) (m : Nat) (X : Nat → Int) (n : Nat) (F : Nat → Int) (ln : Nat) (L : Nat → Int) (b : Int) : Int :=
  if plan p T A S = true then (if gearC n F ln L = 0 then err (waterB p.tn m X b) 2 else gearC n F ln L) else 40
theorem err_zero {b : Bool} {n : Int} (hn : n ≠ 0) (h : err b n = 0) : b = true := by
  cases b
  · exact absurd h hn
  · rfl
end Pure
def PacedOut (p : PlanX) (G A S : Nat → Int) (code : Int) (w : World) (e : Ending) (w' : World) : Prop :=
  ∃ q : PlanX, e = .returned (.tuple #[planV q, .int .i64 code]) ∧ ((code = 0 ∧ ∃ a1 c1 a2 c2 a3 c3, q = p.moved a1 c1 a2 c2 a3 c3 ∧ OwnPlan w' w.heap.size q G A S) ∨ (code ≠ 0 ∧ q = noPlan)) ∧ Below w.heap.size w w'
theorem OwnNums.put {w : World} {base : Nat} {t : TypeId} {k : Nat} {g len cap : Nat} {F F' : Nat → Int} (h : OwnNums w base t k (some ⟨g, 0, none⟩) len cap F) {i : Nat} {z : Int} (hi : i < len * k) (hF : F' = fun q => if q = i then z else F q) : OwnNums (w.setCell ⟨g, i, none⟩ (.int .i64 z)) base t k (some ⟨g, 0, none⟩) len cap F' := by
  obtain ⟨h0, ⟨h1, _⟩ | ⟨g', cap', cur, he, hbase, hg, h2, h3, h4, h5⟩⟩ := h
  · cases h1
  · simp only [Value.slice.injEq, Option.some.injEq, Addr.mk.injEq] at he
    obtain ⟨⟨rfl, _⟩, _, rfl⟩ := he
    refine ⟨numsCells_length _ _, .inr ⟨g, cap, cur.setIfInBounds i (.int .i64 z), rfl, hbase, heap_set hg i _, h2, h3, by simpa using h4, ?_⟩⟩
    apply List.ext_getElem?
    intro j
    by_cases hj : j < len * k
    · rw [List.getElem?_take_of_lt hj, numsCells_get hj]
      have h6 := numsCells_get (F := F) hj
      rw [← h5, List.getElem?_take_of_lt hj] at h6
      have hcs : i < cur.size := by rw [h4]; exact Nat.lt_of_lt_of_le hi (Nat.mul_le_mul_right _ h2)
      subst hF
      by_cases e : j = i
      · subst e
        simp [hcs]
      · simp only [Array.toList_setIfInBounds, e, if_false]
        rw [List.getElem?_set_ne (Ne.symm e)]
        exact h6
    · rw [List.getElem?_eq_none (by simp; omega), List.getElem?_eq_none (by rw [numsCells_length]; omega)]
theorem OwnNums.cellsAt {w : World} {base : Nat} {t : TypeId} {k : Nat} {a : Option Addr} {len cap : Nat} {F : Nat → Int} (h : OwnNums w base t k a len cap F) (h0 : 0 < len) : ∃ g arr, a = some ⟨g, 0, none⟩ ∧ base ≤ g ∧ w.heap[g]? = some (.cells arr t) := by
  obtain ⟨_, ⟨_, h1⟩ | ⟨g', cap', cur, he, hbase, hg, _⟩⟩ := h
  · omega
  · simp only [Value.slice.injEq] at he
    exact ⟨g', cur, he.1, hbase, hg⟩
/-- A plan that is being paced: it, the ratio and the result lie in boxes; its slices are the call's own. -/
structure PaceSt (w0 : World) (bs PB RB TB : Nat) (p : PlanX) (a1 : Option Addr) (c1 : Nat) (a2 : Option Addr) (c2 : Nat) (a3 : Option Addr) (c3 : Nat) (P Q : Nat) (G A S : Nat → Int) (z : World) : Prop where
  pb : z.heap[PB]? = some (planB (p.moved a1 c1 a2 c2 a3 c3))
  rb : z.heap[RB]? = some (partB (P : Int) (Q : Int))
  tb : z.heap[TB]? = some (planB noPlan)
  t : OwnNums z bs 3 1 a1 p.tn c1 G
  a : OwnNums z bs 43 2 a2 p.an c2 A
  s : OwnNums z bs 41 4 a3 p.sn c3 S
  b : Below w0.heap.size w0 z
section
variable {w0 : World} {bs PB RB TB : Nat} {p : PlanX} {a1 : Option Addr} {c1 : Nat} {a2 : Option Addr} {c2 : Nat} {a3 : Option Addr} {c3 : Nat} {P Q : Nat} {G A S : Nat → Int} {z : World}
theorem PaceSt.below (h : PaceSt w0 bs PB RB TB p a1 c1 a2 c2 a3 c3 P Q G A S z) {z' : World} (hb : Below z.heap.size z z') : PaceSt w0 bs PB RB TB p a1 c1 a2 c2 a3 c3 P Q G A S z' :=
  ⟨heap_lft h.pb hb, heap_lft h.rb hb, heap_lft h.tb hb, h.t.below hb, h.a.below hb, h.s.below hb, below_thn h.b hb⟩
theorem PaceSt.put (h : PaceSt w0 bs PB RB TB p a1 c1 a2 c2 a3 c3 P Q G A S z) (hbs : w0.heap.size ≤ bs) {g i : Nat} (ha : a1 = some ⟨g, 0, none⟩) (hi : i < p.tn) {v : Int} {G' : Nat → Int} (hG : G' = fun q => if q = i then v else G q) : PaceSt w0 bs PB RB TB p a1 c1 a2 c2 a3 c3 P Q G' A S (z.setCell ⟨g, i, none⟩ (.int .i64 v)) := by
  obtain ⟨g', arr, e1, e2, e3⟩ := h.t.cellsAt (by omega)
  rw [ha] at e1
  cases e1
  subst ha
  have n1 := h.t.ne h.pb (by decide) _ rfl
  have n2 := h.t.ne h.rb (by decide) _ rfl
  have n3 := h.t.ne h.tb (by decide) _ rfl
  dsimp only at n1 n2 n3
  exact ⟨(Below.heap_setCell _ _ _ _ (Ne.symm n1)).trans h.pb, (Below.heap_setCell _ _ _ _ (Ne.symm n2)).trans h.rb, (Below.heap_setCell _ _ _ _ (Ne.symm n3)).trans h.tb, h.t.put (by omega) hG,
    h.a.kept (fun x hx => Below.heap_setCell _ _ _ _ (h.a.ne e3 (by decide) x hx)), h.s.kept (fun x hx => Below.heap_setCell _ _ _ _ (h.s.ne e3 (by decide) x hx)), h.b.setCell (by dsimp only; omega) _⟩
end

set_option maxHeartbeats 16000000 in
set_option maxRecDepth 100000 in
theorem paced_any (p : PlanX) (T A S : Nat → Int) (wa : Option Addr) (m wc : Nat) (X : Nat → Int) (a : Option Addr) (n c : Nat) (F : Nat → Int) (la : Option Addr) (ln lc : Nat) (L : Nat → Int) (b : Int) (hn : p.tn ≤ 40) (ha : p.an ≤ 40) (hs : p.sn ≤ 40) (hz : NilPlan p) (hm : m ≤ 40) (hwn : n ≤ 20) (hl : ln ≤ 10) (hw : ∀ j, j < ln * 2 → (Lit.int .i64 (L j)).wf = true) (w : World) (h : PlanAt w p T A S) (hX : NumsAt w wa m X) (hF : NumsAt w a n F) (hL : NumsAt w la (ln * 2) L) :
    Calls Try.prog 8 #[planV p, .slice wa m wc, wheelsV a n c, .slice la ln lc, .int .i64 b] w (PacedOut p (Pure.paceG T X (Pure.ratN n F ln L) (Pure.ratD n F ln L) b m) A S (Pure.paceC p T A S m X n F ln L b) w) := by
  obtain ⟨W, hW⟩ : ∃ W, ((w.alloc (planB p)).alloc (wheelsB a n c)).alloc (planB noPlan) = W := ⟨_, rfl⟩
  have HB : Hid (Below w.heap.size w W) := Lib.hid (by rw [← hW]; exact ((below_new _ _).alloc (by simp) _).alloc (by simp; omega) _)
  have HX : Hid (W.heap[w.heap.size]? = some (planB p)) := Lib.hid (by rw [← hW]; exact heap_up (heap_up (heap_top _ _ rfl) _) _)
  have HY : Hid (W.heap[w.heap.size + 1]? = some (wheelsB a n c)) := Lib.hid (by rw [← hW]; exact heap_up (heap_top _ _ (by simp)) _)
  have HT : Hid (W.heap[w.heap.size + 1 + 1]? = some (planB noPlan)) := Lib.hid (by rw [← hW]; exact heap_top _ _ (by simp))
  have HP : Hid (PlanAt W p T A S) := Lib.hid (h.below HB.out)
  have HXX := Lib.hid (hX.below HB.out)
  have HFF := Lib.hid (hF.below HB.out)
  have HLL := Lib.hid (hL.below HB.out)
  have HX0 := Lib.hid hX
  have HZ := Lib.hid hz
  have HWF := Lib.hid hw
  clear h hX hF hL hz hw
  obtain ⟨code, hcode⟩ : ∃ z, Pure.paceC p T A S m X n F ln L b = z := ⟨_, rfl⟩
  obtain ⟨P, hP⟩ : ∃ z, Pure.ratN n F ln L = z := ⟨_, rfl⟩
  obtain ⟨Q, hQ⟩ : ∃ z, Pure.ratD n F ln L = z := ⟨_, rfl⟩
  rw [hcode, hP, hQ]
  have HCD := Lib.hid hcode
  have HPQ := Lib.hid (And.intro hP hQ)
  clear hcode hP hQ
  obtain ⟨r, hr⟩ : ∃ r, Pure.plan p T A S = r := ⟨_, rfl⟩
  have HR := Lib.hid hr
  clear hr
  have x0 := heap_cell HX.out (j := 0) rfl
  have x1 := heap_cell HX.out (j := 1) rfl
  have x2 := heap_cell HX.out (j := 2) rfl
  have x3 := heap_cell HX.out (j := 3) rfl
  have x4 := heap_cell HX.out (j := 4) rfl
  have x5 := heap_cell HX.out (j := 5) rfl
  have x6 := heap_cell HX.out (j := 6) rfl
  go_enter Try.func8, Try.ntmps8
  go_upto_region 1 with fail
  try rw [hW]
  clear hW
  go_wp2_with fail
  refine (check_any p T A S hn ha hs _ HP.out).mono ?_
  rintro e W1 ⟨rfl, hb⟩
  rw [HR.out]
  clear x0 x1 x2 x3 x4 x5 x6
  have HX1 := Lib.hid (heap_lft HX.out hb)
  have HY1 := Lib.hid (heap_lft HY.out hb)
  have HT1 := Lib.hid (heap_lft HT.out hb)
  have HP1 := Lib.hid (HP.out.below hb)
  have HXX1 := Lib.hid (HXX.out.below hb)
  have HFF1 := Lib.hid (HFF.out.below hb)
  have HLL1 := Lib.hid (HLL.out.below hb)
  have HB1 := Lib.hid (below_thn HB.out hb)
  clear hb
  cases r
  · obtain rfl : code = 40 := by rw [← HCD.out, Pure.paceC, if_neg (by rw [HR.out]; decide)]
    have e1 : (Pure.err false 40 != 0) = true := rfl
    have e2 : Pure.err false 40 = 40 := rfl
    have t0 := heap_cell HT1.out (j := 0) rfl
    have t1 := heap_cell HT1.out (j := 1) rfl
    have t2 := heap_cell HT1.out (j := 2) rfl
    have t3 := heap_cell HT1.out (j := 3) rfl
    have t4 := heap_cell HT1.out (j := 4) rfl
    have t5 := heap_cell HT1.out (j := 5) rfl
    have t6 := heap_cell HT1.out (j := 6) rfl
    have f0 := heap_frozen HT1.out 0
    have f1 := heap_frozen HT1.out 1
    have f2 := heap_frozen HT1.out 2
    have f3 := heap_frozen HT1.out 3
    have f4 := heap_frozen HT1.out 4
    have f5 := heap_frozen HT1.out 5
    have f6 := heap_frozen HT1.out 6
    go_wp2_with fail
    refine bodyPost_ret (v := .tuple #[planV noPlan, .int .i64 40]) (by simp [results, Try.results8, go_sem, t0, t1, t2, t3, t4, t5, t6]; try rfl) rfl ⟨noPlan, rfl, .inr ⟨by decide, rfl⟩, ?_⟩
    repeat (first | with_reducible exact HB1.out | with_reducible refine Below.setCell ?_ (by first | (simp; done) | (dsimp only; omega)) _)
  · have e1 : (Pure.err true 40 != 0) = false := rfl
    have y0 := heap_cell HY1.out (j := 0) rfl
    have hge := geared_any a n c F la ln lc L hwn hl HWF.out W1 HFF1.out HLL1.out
    unfold GearOut at hge
    obtain ⟨c1, hc1⟩ : ∃ z, Pure.gearC n F ln L = z := ⟨_, rfl⟩
    rw [hc1] at hge
    have HC1 := Lib.hid hc1
    have HGE := Lib.hid hge
    clear hc1 hge
    go_wp2_with fail
    refine HGE.out.mono ?_
    rintro e W2 ⟨pt, rfl, hpt, hb⟩
    have HPT := Lib.hid hpt
    have HX2 := Lib.hid (heap_lft HX1.out hb)
    have HY2 := Lib.hid (heap_lft HY1.out hb)
    have HT2 := Lib.hid (heap_lft HT1.out hb)
    have HP2 := Lib.hid (HP1.out.below hb)
    have HXX2 := Lib.hid (HXX1.out.below hb)
    have HFF2 := Lib.hid (HFF1.out.below hb)
    have HLL2 := Lib.hid (HLL1.out.below hb)
    have HB2 := Lib.hid (below_thn HB1.out hb)
    clear hb hpt y0 e1
    have x0 := heap_cell HX2.out (j := 0) rfl
    have x1 := heap_cell HX2.out (j := 1) rfl
    have x2 := heap_cell HX2.out (j := 2) rfl
    have x3 := heap_cell HX2.out (j := 3) rfl
    have x4 := heap_cell HX2.out (j := 4) rfl
    have x5 := heap_cell HX2.out (j := 5) rfl
    have x6 := heap_cell HX2.out (j := 6) rfl
    obtain ⟨c2, hc2⟩ : ∃ z, Pure.err (Pure.waterB p.tn m X b) 2 = z := ⟨_, rfl⟩
    have HC2 := Lib.hid hc2
    have hcw := checkWater_any p wa m wc X b hn hm W2 HXX2.out
    rw [hc2] at hcw
    have HCW := Lib.hid hcw
    clear hc2 hcw
    go_wp2_with fail
    refine HCW.out.mono ?_
    rintro e W3 ⟨rfl, hb⟩
    have HX3 := Lib.hid (heap_lft HX2.out hb)
    have HY3 := Lib.hid (heap_lft HY2.out hb)
    have HT3 := Lib.hid (heap_lft HT2.out hb)
    have HP3 := Lib.hid (HP2.out.below hb)
    have HXX3 := Lib.hid (HXX2.out.below hb)
    have HFF3 := Lib.hid (HFF2.out.below hb)
    have HLL3 := Lib.hid (HLL2.out.below hb)
    have HB3 := Lib.hid (below_thn HB2.out hb)
    have HPT3 : Hid (c1 = 0 → ∃ B mp, pt = some ⟨B, 0, none⟩ ∧ W3.heap[B]? = some (shedB a n c mp)) := Lib.hid (fun g => by obtain ⟨B, mp, g1, g2⟩ := HPT.out g; exact ⟨B, mp, g1, heap_lft g2 hb⟩)
    clear hb HPT x0 x1 x2 x3 x4 x5 x6
    go_wp2_with fail
    refine (firstError2G c1 c2 W3.heap.size 2 _ (cells_top W3 #[.int .i64 c1, .int .i64 c2] 34 rfl 0) (cells_top W3 #[.int .i64 c1, .int .i64 c2] 34 rfl 1)).mono ?_
    rintro e W4 ⟨rfl, hb0⟩
    have hb := below_thn (below_new _ _) hb0
    have HX4 := Lib.hid (heap_lft HX3.out hb)
    have HY4 := Lib.hid (heap_lft HY3.out hb)
    have HT4 := Lib.hid (heap_lft HT3.out hb)
    have HP4 := Lib.hid (HP3.out.below hb)
    have HXX4 := Lib.hid (HXX3.out.below hb)
    have HFF4 := Lib.hid (HFF3.out.below hb)
    have HLL4 := Lib.hid (HLL3.out.below hb)
    have HB4 := Lib.hid (below_thn HB3.out hb)
    have HPT4 : Hid (c1 = 0 → ∃ B mp, pt = some ⟨B, 0, none⟩ ∧ W4.heap[B]? = some (shedB a n c mp)) := Lib.hid (fun g => by obtain ⟨B, mp, g1, g2⟩ := HPT3.out g; exact ⟨B, mp, g1, heap_lft g2 hb⟩)
    clear hb hb0 HPT3
    have hqq : (if c1 = 0 then c2 else c1) = code := by rw [← HCD.out, Pure.paceC, if_pos HR.out, HC1.out, HC2.out]
    rw [hqq]
    have HQQ := Lib.hid hqq
    clear hqq
    by_cases h0 : code = 0
    rotate_left
    · have hne : (code != 0) = true := by simp [h0]
      have HNE := Lib.hid h0
      clear h0
      have t0 := heap_cell HT4.out (j := 0) rfl
      have t1 := heap_cell HT4.out (j := 1) rfl
      have t2 := heap_cell HT4.out (j := 2) rfl
      have t3 := heap_cell HT4.out (j := 3) rfl
      have t4 := heap_cell HT4.out (j := 4) rfl
      have t5 := heap_cell HT4.out (j := 5) rfl
      have t6 := heap_cell HT4.out (j := 6) rfl
      have f0 := heap_frozen HT4.out 0
      have f1 := heap_frozen HT4.out 1
      have f2 := heap_frozen HT4.out 2
      have f3 := heap_frozen HT4.out 3
      have f4 := heap_frozen HT4.out 4
      have f5 := heap_frozen HT4.out 5
      have f6 := heap_frozen HT4.out 6
      go_wp2_with fail
      refine bodyPost_ret (v := .tuple #[planV noPlan, .int .i64 code]) (by simp [results, Try.results8, go_sem, t0, t1, t2, t3, t4, t5, t6]; try rfl) rfl ⟨noPlan, rfl, .inr ⟨HNE.out, rfl⟩, ?_⟩
      repeat (first | with_reducible exact HB4.out | with_reducible refine Below.setCell ?_ (by first | (simp; done) | (dsimp only; omega)) _)
    · subst h0
      obtain rfl : c1 = 0 := by
        have := HQQ.out
        split at this
        · assumption
        · assumption
      have hc2 : c2 = 0 := by have := HQQ.out; rwa [if_pos rfl] at this
      obtain ⟨B, mp, rfl, hsh⟩ := HPT4.out rfl
      have HSH := Lib.hid hsh
      obtain ⟨hg1, hg2⟩ := Pure.gearC_zero HC1.out
      have HG := Lib.hid (gears_of hg1 hg2).1
      have HWB := Lib.hid (Pure.waterB_iff.1 (Pure.err_zero (by decide) (HC2.out.trans hc2)))
      clear hsh hg1 hg2 HPT4 HGE hc2
      have hra := ratio_any B mp a n c F la ln lc L HG.out W4 HSH.out HFF4.out HLL4.out
      rw [show Pure.lowN (Pure.nm F L ln) (Pure.dn F L ln) = P from by rw [← HPQ.out.1, Pure.ratN, if_pos HC1.out], show Pure.lowD (Pure.nm F L ln) (Pure.dn F L ln) = Q from by rw [← HPQ.out.2, Pure.ratD, if_pos HC1.out]] at hra
      have hPQ : P ≤ 2000000 ∧ 1 ≤ Q := by
        have h1 := HG.out.nm ln (Nat.le_refl _)
        have h2 := HG.out.l
        have h3 : 120 ^ ln ≤ 120 ^ 3 := Nat.pow_le_pow_right (by decide) h2
        have e1 : P = Pure.lowN (Pure.nm F L ln) (Pure.dn F L ln) := by rw [← HPQ.out.1, Pure.ratN, if_pos HC1.out]
        have e2 : Q = Pure.lowD (Pure.nm F L ln) (Pure.dn F L ln) := by rw [← HPQ.out.2, Pure.ratD, if_pos HC1.out]
        refine ⟨?_, by rw [e2]; exact Pure.lowD_pos h1.2.1⟩
        rw [e1]
        exact Nat.le_trans (Nat.div_le_self _ _) (Nat.le_trans h1.1.2 (Nat.le_trans h3 (by decide)))
      have HBQ := Lib.hid hPQ
      have HRA := Lib.hid hra
      clear hra hPQ
      go_wp2_with fail
      refine HRA.out.mono ?_
      rintro e W5 ⟨rfl, hb⟩
      have HX5 := Lib.hid (heap_lft HX4.out hb)
      have HT5 := Lib.hid (heap_lft HT4.out hb)
      have HP5 := Lib.hid (HP4.out.below hb)
      have HXX5 := Lib.hid (HXX4.out.below hb)
      have HB5 := Lib.hid (below_thn HB4.out hb)
      clear hb HSH HRA
      go_upto_region 9 with fail
      obtain ⟨W6, h6⟩ : ∃ x, W5.alloc (partB (P : Int) (Q : Int)) = x := ⟨_, rfl⟩
      have hb : Below W5.heap.size W5 W6 := by rw [← h6]; exact below_new _ _
      have HRB : Hid (W6.heap[W5.heap.size]? = some (partB (P : Int) (Q : Int))) := Lib.hid (by rw [← h6]; exact heap_top _ _ rfl)
      have HX6 := Lib.hid (heap_lft HX5.out hb)
      have HT6 := Lib.hid (heap_lft HT5.out hb)
      have HP6 := Lib.hid (HP5.out.below hb)
      have HXX6 := Lib.hid (HXX5.out.below hb)
      have HB6 := Lib.hid (below_thn HB5.out hb)
      try rw [h6]
      clear h6 hb
      have x0 := heap_cell HX6.out (j := 0) rfl
      have x1 := heap_cell HX6.out (j := 1) rfl
      have x2 := heap_cell HX6.out (j := 2) rfl
      have x3 := heap_cell HX6.out (j := 3) rfl
      have x4 := heap_cell HX6.out (j := 4) rfl
      have x5 := heap_cell HX6.out (j := 5) rfl
      have x6 := heap_cell HX6.out (j := 6) rfl
      go_wp2_with fail
      refine (copied_any p T A S hn ha hs HZ.out _ HP6.out).mono ?_
      rintro e W7 ⟨a1, k1, a2, k2, a3, k3, rfl, ho, hb, _⟩
      have HO7 := Lib.hid ho
      have HRB7 := Lib.hid (heap_lft HRB.out hb)
      have HT7 := Lib.hid (heap_lft HT6.out hb)
      have HXX7 := Lib.hid (HXX6.out.below hb)
      have HB7 := Lib.hid (below_thn HB6.out hb)
      clear ho hb x0 x1 x2 x3 x4 x5 x6
      go_upto_region 10 with fail
      obtain ⟨W8, h8⟩ : ∃ x, W7.alloc (planB (p.moved a1 k1 a2 k2 a3 k3)) = x := ⟨_, rfl⟩
      have hb : Below W7.heap.size W7 W8 := by rw [← h8]; exact below_new _ _
      have HPB : Hid (W8.heap[W7.heap.size]? = some (planB (p.moved a1 k1 a2 k2 a3 k3))) := Lib.hid (by rw [← h8]; exact heap_top _ _ rfl)
      have HST : Hid (PaceSt w W6.heap.size W7.heap.size W5.heap.size (w.heap.size + 1 + 1) p a1 k1 a2 k2 a3 k3 P Q (Pure.paceG T X P Q b 0) A S W8) := Lib.hid ⟨HPB.out, heap_lft HRB7.out hb, heap_lft HT7.out hb, by rw [Pure.paceG_zero]; exact HO7.out.t.below hb, HO7.out.a.below hb, HO7.out.s.below hb, below_thn HB7.out hb⟩
      have HXX8 := Lib.hid (HXX7.out.below hb)
      have HBS : Hid (w.heap.size + 1 + 1 < W6.heap.size) := Lib.hid (Array.getElem?_eq_some_iff.1 HT6.out).1
      try rw [h8]
      clear h8 hb
      go_wp2_with fail
      go_loopw [17, 18, 49] (fun _ _ i wr => ∃ k : Nat, k ≤ m ∧ i = .int .i64 k ∧ PaceSt w W6.heap.size W7.heap.size W5.heap.size (w.heap.size + 1 + 1) p a1 k1 a2 k2 a3 k3 P Q (Pure.paceG T X P Q b k) A S wr) (fun _ _ i _ => m - (intOf i).toNat)
      case atStart => exact ⟨0, Nat.zero_le _, rfl, HST.out⟩
      case round =>
        obtain ⟨k, hk, rfl, hst⟩ := hrel
        have HSk := Lib.hid hst
        have HXk := Lib.hid (HX0.out.below hst.b)
        clear hst
        by_cases hk1 : k < m
        · obtain ⟨b', off', rfl, -⟩ := HXk.out k hk1
          have n1 : (k : Int) < m := by omega
          have d0 := HXk.out.at hk1
          have hkt : k < p.tn := by have := HWB.out.1; omega
          obtain ⟨g, _, hg, -, -⟩ := HSk.out.t.cellsAt (by omega)
          have d1 : wr.cell? ⟨g, k, none⟩ = some (.int .i64 (T k)) := by
            have := HSk.out.t.nums
            rw [hg] at this
            have h2 := this.at (j := k) (by omega)
            rw [Pure.paceG_at] at h2
            simpa using h2
          obtain ⟨xk, hxk⟩ : ∃ z, X k = z := ⟨_, rfl⟩
          obtain ⟨tk, htk⟩ : ∃ z, T k = z := ⟨_, rfl⟩
          rw [hxk] at d0
          rw [htk] at d1
          have hwk := HWB.out.2.1 k hk1
          rw [hxk] at hwk
          obtain ⟨tv, htv⟩ : ∃ z, Pure.turnV xk P Q b = z := ⟨_, rfl⟩
          have hku : ∀ u, Calls Try.prog 20 #[.int .i64 xk, partV P Q, .int .i64 b] u fun e w' => e = .returned (.int .i64 tv) ∧ w' = u.alloc (partB P Q) := fun u => by
            have := turns_any xk b P Q hwk HBQ.out.1 HBQ.out.2 HWB.out.2.2.1 u
            rwa [htv] at this
          have HTU := Lib.hid hku
          have HV : Hid (Pure.turnV (X k) P Q b = tv ∧ T k = tk) := Lib.hid ⟨by rw [hxk]; exact htv, htk⟩
          have D1 := Lib.hid d1
          have HG9 := Lib.hid (And.intro hg hkt)
          have HKT : Hid ((k : Int) < (p.tn : Int)) := Lib.hid (by omega)
          clear hwk hxk htk htv hku hg hkt d1
          have p1 := heap_cell HSk.out.pb (j := 1) rfl
          have r0 := heap_cell HSk.out.rb (j := 0) rfl
          have r1 := heap_cell HSk.out.rb (j := 1) rfl
          have d1 := D1.out
          have hg := HG9.out.1
          subst hg
          have hkt := HKT.out
          go_upto_region 13 with fail
          have xs0 := among_below p1
          have xs1 := among_below r0
          have xs2 := among_below r1
          have xs3 := among_below d1
          have HC1 : Hid (∀ xq : Among (Below wr.heap.size wr), Calls Try.prog 20 #[.int .i64 xk, partV P Q, .int .i64 b] xq.val fun e w' => e = .returned (.int .i64 tv) ∧ ∃ y : Among (Below wr.heap.size wr), w' = y.val) :=
            Lib.hid (fun xq => calls_class ((HTU.out xq.val).mono fun e w' h => ⟨h.1, h.2 ▸ below_thn xq.ok (below_new _ _)⟩))
          have HSt : Hid (Below wr.heap.size wr wr.drew) := Lib.hid (Below.refl _ _).drew
          have hne : Nonempty (Among (Below wr.heap.size wr)) := ⟨⟨_, HSt.out⟩⟩
          refine wp_region_tail 14 (Below wr.heap.size wr) (by kernel_rfl) (by kernel_rfl) HSt.out ?_
          simp only [List.take_succ_cons, List.take_zero, List.drop_succ_cons, List.drop_zero]
          repeat (go_big_quiet_step ((first | (go_at_call 20; with_reducible exact HC1.out _))))
          refine wpQuiet_nil ?_
          intro w3 hx
          have hb3 := among_out hx
          have HS3 := Lib.hid (HSk.out.below hb3)
          obtain ⟨arr9, hfr⟩ : ∃ x, w3.heap[g]? = some (.cells x 3) := by
            obtain ⟨g8, arr8, h8, _, h9⟩ := HS3.out.t.cellsAt (by have := HG9.out.2; omega)
            cases h8
            exact ⟨arr8, h9⟩
          have d3 := below_cell hb3 d1
          have f3 := heap_frozen hfr k
          clear hx hne hb3 xs0 xs1 xs2 xs3 p1 r0 r1 d1 d0 hfr
          go_wp2_with fail
          go_roundw
          case rel => exact ⟨k + 1, by omega, by go_num, HS3.out.put (by have := HBS.out; omega) rfl HG9.out.2 (by rw [Pure.paceG_put, HV.out.1, HV.out.2])⟩
          case measure => simp [intOf]; omega
        · obtain rfl : k = m := by omega
          have x0 := heap_cell HSk.out.pb (j := 0) rfl
          have x1 := heap_cell HSk.out.pb (j := 1) rfl
          have x2 := heap_cell HSk.out.pb (j := 2) rfl
          have x3 := heap_cell HSk.out.pb (j := 3) rfl
          have x4 := heap_cell HSk.out.pb (j := 4) rfl
          have x5 := heap_cell HSk.out.pb (j := 5) rfl
          have x6 := heap_cell HSk.out.pb (j := 6) rfl
          have t0 := heap_cell HSk.out.tb (j := 0) rfl
          have t1 := heap_cell HSk.out.tb (j := 1) rfl
          have t2 := heap_cell HSk.out.tb (j := 2) rfl
          have t3 := heap_cell HSk.out.tb (j := 3) rfl
          have t4 := heap_cell HSk.out.tb (j := 4) rfl
          have t5 := heap_cell HSk.out.tb (j := 5) rfl
          have t6 := heap_cell HSk.out.tb (j := 6) rfl
          have f0 := heap_frozen HSk.out.tb 0
          have f1 := heap_frozen HSk.out.tb 1
          have f2 := heap_frozen HSk.out.tb 2
          have f3 := heap_frozen HSk.out.tb 3
          have f4 := heap_frozen HSk.out.tb 4
          have f5 := heap_frozen HSk.out.tb 5
          have f6 := heap_frozen HSk.out.tb 6
          have HBk : Hid (Below w.heap.size w wr) := Lib.hid HSk.out.b
          go_wp2_with fail
          refine bodyPost_ret (v := .tuple #[planV (p.moved a1 k1 a2 k2 a3 k3), .int .i64 0]) (by simp [results, Try.results8, go_sem, t0, t1, t2, t3, t4, t5, t6]; try rfl) rfl ⟨p.moved a1 k1 a2 k2 a3 k3, rfl, .inl ⟨rfl, a1, k1, a2, k2, a3, k3, rfl, ?_⟩, ?_⟩
          · have hbs := HBS.out
            refine ⟨OwnNums.base (base := W6.heap.size) ?_ (by omega), OwnNums.base (base := W6.heap.size) ?_ (by omega), OwnNums.base (base := W6.heap.size) ?_ (by omega)⟩
            · repeat (first | with_reducible exact HSk.out.t | with_reducible refine OwnNums.set ?_ (by dsimp only; omega) _)
            · repeat (first | with_reducible exact HSk.out.a | with_reducible refine OwnNums.set ?_ (by dsimp only; omega) _)
            · repeat (first | with_reducible exact HSk.out.s | with_reducible refine OwnNums.set ?_ (by dsimp only; omega) _)
          · repeat (first | with_reducible exact HBk.out | with_reducible refine Below.setCell ?_ (by first | (simp; done) | (dsimp only; omega)) _)

end Go.Proofs.Ytacdbjandcdejaa
