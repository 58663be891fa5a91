/-
  SampleTwice: the walk of the law.
-/
import Derived.Test.YtiiecehmldipmaaAlive
import Derived.Test.YtiiecehmldipmaaAtMostLaw
import Derived.Test.YtiiecehmldipmaaTwiceMath
import Derived.BigRegion
import Derived.Deep.QuietTactic
namespace Go.Proofs.Ytiiecehmldipmaa
open Go.RowKit Go.Shelf

theorem atMostYes {a b c d : Int} (h : Hid (Pure.leP a b c d = true)) (a0 : 0 ≤ a) (a1 : a ≤ 9223372036854775807) (b0 : 0 < b) (b1 : b ≤ 9223372036854775807) (c0 : 0 ≤ c) (c1 : c ≤ 9223372036854775807) (d0 : 0 < d) (d1 : d ≤ 9223372036854775807) (w : World) :
    Calls Try.prog 36 #[.agg #[.int .i64 a, .int .i64 b], .agg #[.int .i64 c, .int .i64 d]] w fun e w' => e = .returned (.bool true) ∧ Below w.heap.size w w' :=
  (atMost_law a b c d a0 a1 b0 b1 c0 c1 d0 d1 w).mono fun _ _ g => ⟨g.1.trans (by rw [h.out]), g.2⟩
theorem ok_rule {b x y : Int} (x0 : 0 ≤ x) (x1 : x ≤ b) (y0 : 0 ≤ y) (y1 : y ≤ x) : Pure.okDraw b x y = true := by unfold Pure.okDraw; rw [decide_eq_true_eq]; omega
/-- What Twice and Accepts answer, given by their values. -/
theorem twiceR {b lo hi x1 a r x2 t d pn pd on od : Int} (h : Hid (Pure.twiceV b lo hi x1 a r x2 t d = .tuple #[.agg #[.int .i64 pn, .int .i64 pd], .agg #[.int .i64 on, .int .i64 od], .int .i64 0])) (w : World) :
    Calls Try.prog 19 #[cargoV b lo hi, .agg #[.int .i64 x1, .int .i64 a, .int .i64 r, .int .i64 x2, .int .i64 t], .int .i64 d] w fun e w' => e = .returned (.tuple #[.agg #[.int .i64 pn, .int .i64 pd], .agg #[.int .i64 on, .int .i64 od], .int .i64 0]) ∧ Below w.heap.size w w' :=
  (twice_top b lo hi x1 a r x2 t d w).mono fun _ _ g => ⟨g.1.trans (by rw [h.out]), g.2⟩
theorem acceptsV {b lo hi d o f pn pd : Int} (hc : Pure.okCargo b lo hi = true) (d0 : lo ≤ d) (d1 : d ≤ hi) (o0 : 0 ≤ o) (o1 : o ≤ b) (f0 : 0 ≤ f) (f1 : f ≤ o) (h : Hid (partV (Pure.few b d o f) (Pure.sets b o) = .agg #[.int .i64 pn, .int .i64 pd])) (w : World) :
    Calls Try.prog 10 #[cargoV b lo hi, .agg #[.int .i64 o, .int .i64 f], .int .i64 d] w fun e w' => e = .returned (.tuple #[.agg #[.int .i64 pn, .int .i64 pd], .int .i64 0]) ∧ Below w.heap.size w w' :=
  (accepts_top b lo hi d o f w).mono fun _ _ g => ⟨g.1.trans (by
    have h3 : Pure.okIn lo hi d = true := by unfold Pure.okIn; rw [decide_eq_true_eq]; omega
    rw [Pure.res2_zero (by rw [hc, ok_rule o0 o1 f0 f1, h3]; rfl), h.out]), g.2⟩
/-- A double rule in a box, a number of it written. -/
theorem dbl_set {w : World} {B : Nat} {a b c d e : Value} {t : TypeId} (h : w.heap[B]? = some (.cells #[a, b, c, d, e] t)) (x : Value) :
    (w.setCell ⟨B, 0, none⟩ x).heap[B]? = some (.cells #[x, b, c, d, e] t) ∧ (w.setCell ⟨B, 1, none⟩ x).heap[B]? = some (.cells #[a, x, c, d, e] t) ∧ (w.setCell ⟨B, 2, none⟩ x).heap[B]? = some (.cells #[a, b, x, d, e] t) ∧ (w.setCell ⟨B, 3, none⟩ x).heap[B]? = some (.cells #[a, b, c, x, e] t) ∧ (w.setCell ⟨B, 4, none⟩ x).heap[B]? = some (.cells #[a, b, c, d, x] t) :=
  ⟨heap_set h 0 x, heap_set h 1 x, heap_set h 2 x, heap_set h 3 x, heap_set h 4 x⟩
theorem below_drew {w : World} : Below w.heap.size w w.drew := (Below.refl _ _).drew

set_option maxHeartbeats 4000000 in
set_option maxRecDepth 100000 in
/-- A cargo that is not valid. -/
theorem twice_bad (b lo hi x q1 q2 q3 q4 q5 : Int) (hc : Hid (Pure.okCargo b lo hi = false)) (w : World) :
    Calls Try.prog 8 #[cargoV b lo hi, .int .u8 x, .int .u8 q1, .int .u8 q2, .int .u8 q3, .int .u8 q4, .int .u8 q5] w fun e w' => e = .returned (.bool true) ∧ Below w.heap.size w w' := by
  go_enter Try.func8, Try.ntmps8
  go_wp2_with fail
  refine (alive_any _).mono ?_
  rintro e w1 ⟨rfl, hb1⟩
  have hcc := heap_lift (heap_top w (.cells #[.int .i64 b, .int .i64 lo, .int .i64 hi] 25) rfl) hb1
  have HC := Lib.hid hcc
  have c0 := heap_cell hcc (j := 0) rfl
  have c1 := heap_cell hcc (j := 1) rfl
  have c2 := heap_cell hcc (j := 2) rfl
  have HB := Lib.hid (below_then ((Below.refl _ _).alloc (Nat.le_refl _) _) hb1)
  obtain ⟨Bc, hBc⟩ : ∃ Bc, w.heap.size = Bc := ⟨_, rfl⟩
  rw [hBc] at HC c0 c1 c2
  clear hcc hb1
  go_wp2_with fail
  clear hBc
  refine (rCargo_any b lo hi _).mono ?_
  rw [hc.out]
  rintro e w2 ⟨rfl, rfl⟩
  obtain ⟨w2, hw2⟩ : ∃ w2, w1.alloc (.cells #[.int .i64 b, .int .i64 lo, .int .i64 hi] 25) = w2 := ⟨_, rfl⟩
  replace HC := Lib.hid (heap_up HC.out (.cells #[.int .i64 b, .int .i64 lo, .int .i64 hi] 25))
  replace HB := Lib.hid (HB.out.alloc HB.out.size (.cells #[.int .i64 b, .int .i64 lo, .int .i64 hi] 25))
  rw [hw2] at HC HB
  rw [hw2]
  clear c0 c1 c2 hw2
  clear HC
  go_wp2_with fail
  go_ret
  exact ⟨rfl, HB.out⟩

set_option maxHeartbeats 16000000 in
set_option maxRecDepth 100000 in
theorem twice_good (b lo hi x q1 q2 q3 q4 q5 x1 a r x2 t d T pn pd on od ln ld hn hd' qn qd : Int) (hc : Hid (Pure.okCargo b lo hi = true)) (b1 : 1 ≤ b) (b2 : b ≤ 36) (l0 : 0 ≤ lo) (l1 : lo ≤ hi) (h36 : hi ≤ 36) (y0 : 0 ≤ x) (y1 : x ≤ 255) (q10 : 0 ≤ q1) (q11 : q1 ≤ 255) (q20 : 0 ≤ q2) (q21 : q2 ≤ 255) (q30 : 0 ≤ q3) (q31 : q3 ≤ 255) (q40 : 0 ≤ q4) (q41 : q4 ≤ 255) (q50 : 0 ≤ q5) (q51 : q5 ≤ 255)
    (hx1 : Hid (q1 % (b + 1) = x1)) (hx2 : Hid (q4 % (b - x1 + 1) = x2)) (ha : Hid (q2 % (x1 + 1) = a)) (hr : Hid (a + 1 + q3 % (x1 - a + 1) = r)) (ht : Hid (a + q5 % (r + x2 - a + 1) = t)) (hd : Hid (lo + x % (hi - lo + 1) = d)) (d0 : lo ≤ d) (d1 : d ≤ hi)
    (x10 : 0 ≤ x1) (x11 : x1 ≤ b) (x20 : 0 ≤ x2) (x21 : x2 ≤ b - x1) (a0 : 0 ≤ a) (a1 : a ≤ x1) (r0 : a + 1 ≤ r) (r1 : r ≤ x1 + 1) (t0 : a ≤ t) (t1' : t ≤ r + x2) (hT : Hid (min t r = T)) (T0 : a ≤ T) (T1 : T ≤ r)
    (hP : Hid (Pure.twiceV b lo hi x1 a r x2 t d = .tuple #[.agg #[.int .i64 pn, .int .i64 pd], .agg #[.int .i64 on, .int .i64 od], .int .i64 0])) (hL : Hid (partV (Pure.few b d x1 a) (Pure.sets b x1) = .agg #[.int .i64 ln, .int .i64 ld])) (hH : Hid (partV (Pure.few b d x1 (r - 1)) (Pure.sets b x1) = .agg #[.int .i64 hn, .int .i64 hd']))
    (hQ : Hid (Pure.twiceV b lo hi x1 a r 0 T d = .tuple #[.agg #[.int .i64 qn, .int .i64 qd], .agg #[.int .i64 x1, .int .i64 1], .int .i64 0])) (hO : Hid (partV (Pure.few b d x1 (min T (r - 1))) (Pure.sets b x1) = .agg #[.int .i64 qn, .int .i64 qd]))
    (pn0 : 0 ≤ pn) (pd0 : 1 ≤ pd) (on0 : 0 ≤ on) (od0 : 1 ≤ od) (ln0 : 0 ≤ ln) (ld0 : 1 ≤ ld) (hn0 : 0 ≤ hn) (hd0 : 1 ≤ hd')
    (hA1 : Hid (∀ w : World, Calls Try.prog 36 #[.agg #[.int .i64 ln, .int .i64 ld], .agg #[.int .i64 pn, .int .i64 pd]] w fun e w' => e = .returned (.bool true) ∧ Below w.heap.size w w'))
    (hA2 : Hid (∀ w : World, Calls Try.prog 36 #[.agg #[.int .i64 pn, .int .i64 pd], .agg #[.int .i64 hn, .int .i64 hd']] w fun e w' => e = .returned (.bool true) ∧ Below w.heap.size w w'))
    (hA3 : Hid (∀ w : World, Calls Try.prog 36 #[.agg #[.int .i64 x1, .int .i64 1], .agg #[.int .i64 on, .int .i64 od]] w fun e w' => e = .returned (.bool true) ∧ Below w.heap.size w w'))
    (hA4 : Hid (∀ w : World, Calls Try.prog 36 #[.agg #[.int .i64 on, .int .i64 od], .agg #[.int .i64 (x1 + x2), .int .i64 1]] w fun e w' => e = .returned (.bool true) ∧ Below w.heap.size w w')) (w : World) :
    Calls Try.prog 8 #[cargoV b lo hi, .int .u8 x, .int .u8 q1, .int .u8 q2, .int .u8 q3, .int .u8 q4, .int .u8 q5] w fun e w' => e = .returned (.bool true) ∧ Below w.heap.size w w' := by
  go_enter Try.func8, Try.ntmps8
  go_wp2_with fail
  refine (alive_any _).mono ?_
  rintro e w1 ⟨rfl, hb1⟩
  have hcc := heap_lift (heap_top w (.cells #[.int .i64 b, .int .i64 lo, .int .i64 hi] 25) rfl) hb1
  have HC := Lib.hid hcc
  have c0 := heap_cell hcc (j := 0) rfl
  have c1 := heap_cell hcc (j := 1) rfl
  have c2 := heap_cell hcc (j := 2) rfl
  have HB := Lib.hid (below_then ((Below.refl _ _).alloc (Nat.le_refl _) _) hb1)
  obtain ⟨Bc, hBc⟩ : ∃ Bc, w.heap.size = Bc := ⟨_, rfl⟩
  rw [hBc] at HC c0 c1 c2
  clear hcc hb1
  go_wp2_with fail
  clear hBc
  refine (rCargo_any b lo hi _).mono ?_
  rw [hc.out]
  rintro e w2 ⟨rfl, rfl⟩
  obtain ⟨w2, hw2⟩ : ∃ w2, w1.alloc (.cells #[.int .i64 b, .int .i64 lo, .int .i64 hi] 25) = w2 := ⟨_, rfl⟩
  replace HC := Lib.hid (heap_up HC.out (.cells #[.int .i64 b, .int .i64 lo, .int .i64 hi] 25))
  replace HB := Lib.hid (HB.out.alloc HB.out.size (.cells #[.int .i64 b, .int .i64 lo, .int .i64 hi] 25))
  rw [hw2] at HC HB
  rw [hw2]
  clear c0 c1 c2 hw2
  have c0 := heap_cell HC.out (j := 0) rfl
  have c1 := heap_cell HC.out (j := 1) rfl
  have c2 := heap_cell HC.out (j := 2) rfl
  go_upto_region 4 with fail
  go_upto_region 5 with fail
  clear c0 c1 c2
  have hx := heap_top w2 (.cells #[.int .i64 0, .int .i64 0, .int .i64 0, .int .i64 0, .int .i64 0] 29) rfl
  have hlt : Bc < w2.heap.size := (Array.getElem?_eq_some_iff.1 HC.out).1
  have hb3 : Below w2.heap.size w2 (w2.alloc (.cells #[.int .i64 0, .int .i64 0, .int .i64 0, .int .i64 0, .int .i64 0] 29)) := (Below.refl _ _).alloc (Nat.le_refl _) _
  replace HC := Lib.hid (heap_lift HC.out hb3)
  have hps : w.heap.size ≤ w2.heap.size := HB.out.size
  replace HB := Lib.hid (below_then HB.out hb3)
  obtain ⟨Bx, hBx⟩ : ∃ B, w2.heap.size = B := ⟨_, rfl⟩
  obtain ⟨w3, hw3⟩ : ∃ v, w2.alloc (.cells #[.int .i64 0, .int .i64 0, .int .i64 0, .int .i64 0, .int .i64 0] 29) = v := ⟨_, rfl⟩
  rw [hBx] at hx hlt hps
  rw [hw3] at hx HC HB
  rw [hw3, hBx]
  have HX := Lib.hid hx
  have HPS := Lib.hid hps
  have HLT := Lib.hid hlt
  clear hx hb3 hlt hps hBx hw3
  have c0 := heap_cell HC.out (j := 0) rfl
  have c1 := heap_cell HC.out (j := 1) rfl
  have c2 := heap_cell HC.out (j := 2) rfl
  have k0 := heap_cell HX.out (j := 0) rfl
  have k1 := heap_cell HX.out (j := 1) rfl
  have k2 := heap_cell HX.out (j := 2) rfl
  have k3 := heap_cell HX.out (j := 3) rfl
  have k4 := heap_cell HX.out (j := 4) rfl
  have kf := heap_frozen HX.out 0
  have t1 : (0 : Int) < b + 1 := by omega
  go_upto_region 6 with fail
  rw [hx1.out]
  clear t1
  clear c0 c1 c2 k0 k1 k2 k3 k4 kf
  replace HC := Lib.hid ((Below.heap_setCell w3 ⟨Bx, 0, none⟩ (.int .i64 x1) Bc (by have := HLT.out; simp; omega)).trans HC.out)
  replace HB := Lib.hid (HB.out.setCell (p := ⟨Bx, 0, none⟩) HPS.out (.int .i64 x1))
  replace HX := Lib.hid ((dbl_set HX.out (.int .i64 x1)).1)
  obtain ⟨w4, hwn⟩ : ∃ v, w3.setCell ⟨Bx, 0, none⟩ (.int .i64 x1) = v := ⟨_, rfl⟩
  rw [hwn] at HB HX HC
  rw [hwn]
  clear hwn
  have c0 := heap_cell HC.out (j := 0) rfl
  have c1 := heap_cell HC.out (j := 1) rfl
  have c2 := heap_cell HC.out (j := 2) rfl
  have k0 := heap_cell HX.out (j := 0) rfl
  have k1 := heap_cell HX.out (j := 1) rfl
  have k2 := heap_cell HX.out (j := 2) rfl
  have k3 := heap_cell HX.out (j := 3) rfl
  have k4 := heap_cell HX.out (j := 4) rfl
  have kf := heap_frozen HX.out 3
  have t1 : (0 : Int) < b - x1 + 1 := by omega
  go_upto_region 7 with fail
  rw [hx2.out]
  clear t1
  clear c0 c1 c2 k0 k1 k2 k3 k4 kf
  replace HC := Lib.hid ((Below.heap_setCell w4 ⟨Bx, 3, none⟩ (.int .i64 x2) Bc (by have := HLT.out; simp; omega)).trans HC.out)
  replace HB := Lib.hid (HB.out.setCell (p := ⟨Bx, 3, none⟩) HPS.out (.int .i64 x2))
  replace HX := Lib.hid ((dbl_set HX.out (.int .i64 x2)).2.2.2.1)
  obtain ⟨w5, hwn⟩ : ∃ v, w4.setCell ⟨Bx, 3, none⟩ (.int .i64 x2) = v := ⟨_, rfl⟩
  rw [hwn] at HB HX HC
  rw [hwn]
  clear hwn
  have c0 := heap_cell HC.out (j := 0) rfl
  have c1 := heap_cell HC.out (j := 1) rfl
  have c2 := heap_cell HC.out (j := 2) rfl
  have k0 := heap_cell HX.out (j := 0) rfl
  have k1 := heap_cell HX.out (j := 1) rfl
  have k2 := heap_cell HX.out (j := 2) rfl
  have k3 := heap_cell HX.out (j := 3) rfl
  have k4 := heap_cell HX.out (j := 4) rfl
  have kf := heap_frozen HX.out 1
  have t1 : (0 : Int) < x1 + 1 := by omega
  go_upto_region 8 with fail
  rw [ha.out]
  clear t1
  clear c0 c1 c2 k0 k1 k2 k3 k4 kf
  replace HC := Lib.hid ((Below.heap_setCell w5 ⟨Bx, 1, none⟩ (.int .i64 a) Bc (by have := HLT.out; simp; omega)).trans HC.out)
  replace HB := Lib.hid (HB.out.setCell (p := ⟨Bx, 1, none⟩) HPS.out (.int .i64 a))
  replace HX := Lib.hid ((dbl_set HX.out (.int .i64 a)).2.1)
  obtain ⟨w6, hwn⟩ : ∃ v, w5.setCell ⟨Bx, 1, none⟩ (.int .i64 a) = v := ⟨_, rfl⟩
  rw [hwn] at HB HX HC
  rw [hwn]
  clear hwn
  have c0 := heap_cell HC.out (j := 0) rfl
  have c1 := heap_cell HC.out (j := 1) rfl
  have c2 := heap_cell HC.out (j := 2) rfl
  have k0 := heap_cell HX.out (j := 0) rfl
  have k1 := heap_cell HX.out (j := 1) rfl
  have k2 := heap_cell HX.out (j := 2) rfl
  have k3 := heap_cell HX.out (j := 3) rfl
  have k4 := heap_cell HX.out (j := 4) rfl
  have kf := heap_frozen HX.out 2
  have t1 : (0 : Int) < x1 - a + 1 := by omega
  have t2 : ¬ (x1 - a + 1 = 0) := by omega
  have t3 : 0 ≤ q3 % (x1 - a + 1) := Int.emod_nonneg _ (by omega)
  have t4 : q3 % (x1 - a + 1) < x1 - a + 1 := Int.emod_lt_of_pos _ t1
  go_region
  go_upto_region 9 with fail
  rw [hr.out]
  clear t1 t2 t3 t4
  clear c0 c1 c2 k0 k1 k2 k3 k4 kf
  replace HC := Lib.hid ((Below.heap_setCell w6 ⟨Bx, 2, none⟩ (.int .i64 r) Bc (by have := HLT.out; simp; omega)).trans HC.out)
  replace HB := Lib.hid (HB.out.setCell (p := ⟨Bx, 2, none⟩) HPS.out (.int .i64 r))
  replace HX := Lib.hid ((dbl_set HX.out (.int .i64 r)).2.2.1)
  obtain ⟨w7, hwn⟩ : ∃ v, w6.setCell ⟨Bx, 2, none⟩ (.int .i64 r) = v := ⟨_, rfl⟩
  rw [hwn] at HB HX HC
  rw [hwn]
  clear hwn
  replace HC := Lib.hid (heap_lift HC.out (below_drew (w := w7)))
  replace HX := Lib.hid (heap_lift HX.out (below_drew (w := w7)))
  replace HB := Lib.hid (below_then HB.out (below_drew (w := w7)))
  obtain ⟨w7d, hwn⟩ : ∃ v, w7.drew = v := ⟨_, rfl⟩
  rw [hwn] at HB HX HC
  rw [hwn]
  clear hwn
  have c0 := heap_cell HC.out (j := 0) rfl
  have c1 := heap_cell HC.out (j := 1) rfl
  have c2 := heap_cell HC.out (j := 2) rfl
  have k0 := heap_cell HX.out (j := 0) rfl
  have k1 := heap_cell HX.out (j := 1) rfl
  have k2 := heap_cell HX.out (j := 2) rfl
  have k3 := heap_cell HX.out (j := 3) rfl
  have k4 := heap_cell HX.out (j := 4) rfl
  have kf := heap_frozen HX.out 4
  have t1 : (0 : Int) < r + x2 - a + 1 := by omega
  have t2 : ¬ (r + x2 - a + 1 = 0) := by omega
  have t3 : 0 ≤ q5 % (r + x2 - a + 1) := Int.emod_nonneg _ (by omega)
  have t4 : q5 % (r + x2 - a + 1) < r + x2 - a + 1 := Int.emod_lt_of_pos _ t1
  go_region
  go_upto_region 10 with fail
  rw [ht.out]
  clear t1 t2 t3 t4
  clear c0 c1 c2 k0 k1 k2 k3 k4 kf
  replace HC := Lib.hid ((Below.heap_setCell w7d ⟨Bx, 4, none⟩ (.int .i64 t) Bc (by have := HLT.out; simp; omega)).trans HC.out)
  replace HB := Lib.hid (HB.out.setCell (p := ⟨Bx, 4, none⟩) HPS.out (.int .i64 t))
  replace HX := Lib.hid ((dbl_set HX.out (.int .i64 t)).2.2.2.2)
  obtain ⟨w8, hwn⟩ : ∃ v, w7d.setCell ⟨Bx, 4, none⟩ (.int .i64 t) = v := ⟨_, rfl⟩
  rw [hwn] at HB HX HC
  rw [hwn]
  clear hwn
  replace HC := Lib.hid (heap_lift HC.out (below_drew (w := w8)))
  replace HX := Lib.hid (heap_lift HX.out (below_drew (w := w8)))
  replace HB := Lib.hid (below_then HB.out (below_drew (w := w8)))
  obtain ⟨w8d, hwn⟩ : ∃ v, w8.drew = v := ⟨_, rfl⟩
  rw [hwn] at HB HX HC
  rw [hwn]
  clear hwn
  have c0 := heap_cell HC.out (j := 0) rfl
  have c1 := heap_cell HC.out (j := 1) rfl
  have c2 := heap_cell HC.out (j := 2) rfl
  go_wp2_with fail
  refine (some_any b lo hi x l0 l1 h36 y0 y1 hd _).mono ?_
  rintro e v0 ⟨rfl, hb⟩
  replace HC := Lib.hid (heap_lift HC.out hb)
  replace HX := Lib.hid (heap_lift HX.out hb)
  replace HB := Lib.hid (below_then HB.out hb)
  clear hb c0 c1 c2
  have c0 := heap_cell HC.out (j := 0) rfl
  have c1 := heap_cell HC.out (j := 1) rfl
  have c2 := heap_cell HC.out (j := 2) rfl
  have k0 := heap_cell HX.out (j := 0) rfl
  have k1 := heap_cell HX.out (j := 1) rfl
  have k2 := heap_cell HX.out (j := 2) rfl
  have k3 := heap_cell HX.out (j := 3) rfl
  have k4 := heap_cell HX.out (j := 4) rfl
  go_wp2_with fail
  refine (twiceR hP _).mono ?_
  rintro e v1 ⟨rfl, hb1⟩
  have hb2 := (hb1.alloc hb1.size (.cells #[.int .i64 pn, .int .i64 pd] 31)).alloc (by have := hb1.size; simp; omega) (.cells #[.int .i64 on, .int .i64 od] 31)
  replace HC := Lib.hid (heap_lift HC.out hb2)
  replace HX := Lib.hid (heap_lift HX.out hb2)
  replace HB := Lib.hid (below_then HB.out hb2)
  have hx1 := heap_up (heap_top v1 (.cells #[.int .i64 pn, .int .i64 pd] 31) rfl) (.cells #[.int .i64 on, .int .i64 od] 31)
  have hx2 := heap_top (v1.alloc (.cells #[.int .i64 pn, .int .i64 pd] 31)) (.cells #[.int .i64 on, .int .i64 od] 31) rfl
  obtain ⟨Bp, hBp⟩ : ∃ B, v1.heap.size = B := ⟨_, rfl⟩
  have hB2 : (v1.alloc (.cells #[.int .i64 pn, .int .i64 pd] 31)).heap.size = Bp + 1 := by rw [← hBp]; simp
  obtain ⟨v2, hv2⟩ : ∃ v, (v1.alloc (.cells #[.int .i64 pn, .int .i64 pd] 31)).alloc (.cells #[.int .i64 on, .int .i64 od] 31) = v := ⟨_, rfl⟩
  rw [hB2] at hx2
  rw [hBp] at hx1
  rw [hv2] at HC HX HB hx1 hx2
  have HBp := Lib.hid hx1
  have HBo := Lib.hid hx2
  clear hb1 hb2 hx1 hx2
  clear c0 c1 c2 k0 k1 k2 k3 k4
  have c0 := heap_cell HC.out (j := 0) rfl
  have c1 := heap_cell HC.out (j := 1) rfl
  have c2 := heap_cell HC.out (j := 2) rfl
  have k0 := heap_cell HX.out (j := 0) rfl
  have k1 := heap_cell HX.out (j := 1) rfl
  have k2 := heap_cell HX.out (j := 2) rfl
  have k3 := heap_cell HX.out (j := 3) rfl
  have k4 := heap_cell HX.out (j := 4) rfl
  go_wp2_with fail
  clear hBp hB2 hv2
  refine (acceptsV hc.out d0 d1 (show 0 ≤ x1 by omega) (by omega) (show 0 ≤ a by omega) (by omega) hL _).mono ?_
  rintro e v3 ⟨rfl, hb1⟩
  have hb2 := hb1.alloc hb1.size (.cells #[.int .i64 ln, .int .i64 ld] 31)
  replace HC := Lib.hid (heap_lift HC.out hb2)
  replace HX := Lib.hid (heap_lift HX.out hb2)
  replace HBp := Lib.hid (heap_lift HBp.out hb2)
  replace HBo := Lib.hid (heap_lift HBo.out hb2)
  replace HB := Lib.hid (below_then HB.out hb2)
  have hx := heap_top v3 (.cells #[.int .i64 ln, .int .i64 ld] 31) rfl
  obtain ⟨Bl, hBl⟩ : ∃ B, v3.heap.size = B := ⟨_, rfl⟩
  obtain ⟨v4, hv4⟩ : ∃ v, v3.alloc (.cells #[.int .i64 ln, .int .i64 ld] 31) = v := ⟨_, rfl⟩
  rw [hBl] at hx
  rw [hv4] at HC HX HBp HBo HB hx
  have HBl := Lib.hid hx
  clear hb1 hb2 hx
  clear c0 c1 c2 k0 k1 k2 k3 k4
  have c0 := heap_cell HC.out (j := 0) rfl
  have c1 := heap_cell HC.out (j := 1) rfl
  have c2 := heap_cell HC.out (j := 2) rfl
  have k0 := heap_cell HX.out (j := 0) rfl
  have k1 := heap_cell HX.out (j := 1) rfl
  have k2 := heap_cell HX.out (j := 2) rfl
  have k3 := heap_cell HX.out (j := 3) rfl
  have k4 := heap_cell HX.out (j := 4) rfl
  go_wp2_with fail
  clear hBl hv4
  refine (acceptsV hc.out d0 d1 (show 0 ≤ x1 by omega) (by omega) (show 0 ≤ r - 1 by omega) (by omega) hH _).mono ?_
  rintro e v5 ⟨rfl, hb1⟩
  have hb2 := hb1.alloc hb1.size (.cells #[.int .i64 hn, .int .i64 hd'] 31)
  replace HC := Lib.hid (heap_lift HC.out hb2)
  replace HX := Lib.hid (heap_lift HX.out hb2)
  replace HBp := Lib.hid (heap_lift HBp.out hb2)
  replace HBo := Lib.hid (heap_lift HBo.out hb2)
  replace HBl := Lib.hid (heap_lift HBl.out hb2)
  replace HB := Lib.hid (below_then HB.out hb2)
  have hx := heap_top v5 (.cells #[.int .i64 hn, .int .i64 hd'] 31) rfl
  obtain ⟨Bh, hBh⟩ : ∃ B, v5.heap.size = B := ⟨_, rfl⟩
  obtain ⟨v6, hv6⟩ : ∃ v, v5.alloc (.cells #[.int .i64 hn, .int .i64 hd'] 31) = v := ⟨_, rfl⟩
  rw [hBh] at hx
  rw [hv6] at HC HX HBp HBo HBl HB hx
  have HBh := Lib.hid hx
  clear hb1 hb2 hx
  clear c0 c1 c2 k0 k1 k2 k3 k4
  have pp0 := heap_cell HBp.out (j := 0) rfl
  have pp1 := heap_cell HBp.out (j := 1) rfl
  have oo0 := heap_cell HBo.out (j := 0) rfl
  have oo1 := heap_cell HBo.out (j := 1) rfl
  have ll0 := heap_cell HBl.out (j := 0) rfl
  have ll1 := heap_cell HBl.out (j := 1) rfl
  have hh0 := heap_cell HBh.out (j := 0) rfl
  have hh1 := heap_cell HBh.out (j := 1) rfl
  go_wp2_with fail
  clear hBh hv6
  clear pp0 pp1 oo0 oo1 ll0 ll1 hh0 hh1
  have hx := heap_top v6 (.cells #[.int .i64 pn, .int .i64 pd, .int .i64 on, .int .i64 od, .int .i64 ln, .int .i64 ld, .int .i64 hn, .int .i64 hd'] 31) rfl
  have hb3 : Below v6.heap.size v6 (v6.alloc (.cells #[.int .i64 pn, .int .i64 pd, .int .i64 on, .int .i64 od, .int .i64 ln, .int .i64 ld, .int .i64 hn, .int .i64 hd'] 31)) := (Below.refl _ _).alloc (Nat.le_refl _) _
  replace HC := Lib.hid (heap_lift HC.out hb3)
  replace HX := Lib.hid (heap_lift HX.out hb3)
  replace HBp := Lib.hid (heap_lift HBp.out hb3)
  replace HBo := Lib.hid (heap_lift HBo.out hb3)
  replace HBl := Lib.hid (heap_lift HBl.out hb3)
  replace HBh := Lib.hid (heap_lift HBh.out hb3)
  replace HB := Lib.hid (below_then HB.out hb3)
  obtain ⟨Bs, hBs⟩ : ∃ B, v6.heap.size = B := ⟨_, rfl⟩
  obtain ⟨v7, hv7⟩ : ∃ v, v6.alloc (.cells #[.int .i64 pn, .int .i64 pd, .int .i64 on, .int .i64 od, .int .i64 ln, .int .i64 ld, .int .i64 hn, .int .i64 hd'] 31) = v := ⟨_, rfl⟩
  rw [hBs] at hx
  rw [hv7] at HC HX HBp HBo HBl HBh HB hx
  rw [hv7, hBs]
  have HS := Lib.hid hx
  clear hb3 hx hBs hv7
  go_loopw [145] (fun i wr => ∃ k : Nat, k ≤ 4 ∧ i = .int .i64 k ∧ Below v7.heap.size v7 wr) (fun i _ => 4 - (intOf i).toNat)
  case atStart => exact ⟨0, by omega, rfl, Below.refl _ _⟩
  case round =>
    obtain ⟨k, hk, rfl, hbr⟩ := hrel
    replace HC := Lib.hid (heap_lift HC.out hbr)
    replace HX := Lib.hid (heap_lift HX.out hbr)
    replace HBp := Lib.hid (heap_lift HBp.out hbr)
    replace HBo := Lib.hid (heap_lift HBo.out hbr)
    replace HBl := Lib.hid (heap_lift HBl.out hbr)
    replace HBh := Lib.hid (heap_lift HBh.out hbr)
    replace HS := Lib.hid (heap_lift HS.out hbr)
    have HBR := Lib.hid hbr
    clear hbr
    have hk5 : k = 0 ∨ k = 1 ∨ k = 2 ∨ k = 3 ∨ k = 4 := by omega
    clear hk
    rcases hk5 with rfl | rfl | rfl | rfl | rfl
    · as_aux_lemma =>
        have s0 := heap_cell HS.out (j := 0) rfl
        have s1 := heap_cell HS.out (j := 1) rfl
        go_wp2_with fail
        go_roundw
        case rel => exact ⟨1, by omega, by go_num, HBR.out.alloc HBR.out.size _⟩
        case measure => (simp [intOf])
    · as_aux_lemma =>
        have s0 := heap_cell HS.out (j := 2) rfl
        have s1 := heap_cell HS.out (j := 3) rfl
        go_wp2_with fail
        go_roundw
        case rel => exact ⟨2, by omega, by go_num, HBR.out.alloc HBR.out.size _⟩
        case measure => (simp [intOf])
    · as_aux_lemma =>
        have s0 := heap_cell HS.out (j := 4) rfl
        have s1 := heap_cell HS.out (j := 5) rfl
        go_wp2_with fail
        go_roundw
        case rel => exact ⟨3, by omega, by go_num, HBR.out.alloc HBR.out.size _⟩
        case measure => (simp [intOf])
    · as_aux_lemma =>
        have s0 := heap_cell HS.out (j := 6) rfl
        have s1 := heap_cell HS.out (j := 7) rfl
        go_wp2_with fail
        go_roundw
        case rel => exact ⟨4, by omega, by go_num, HBR.out.alloc HBR.out.size _⟩
        case measure => (simp [intOf])
    · as_aux_lemma =>
        clear HS
        replace HB := Lib.hid (below_then HB.out HBR.out)
        clear HBR
        go_wp2_with fail
        have t1 : IntKind.i64.wrap (x1 + x2) = x1 + x2 := IntWalk.i64_in _ (by omega)
        go_cut [186] (fun s wx => s = .bool false ∧ Below wr.heap.size wr wx)
        case first =>
          as_aux_lemma =>
            have xx0 : ∀ xq : Among (Below wr.heap.size wr), xq.val.cell? ⟨Bp, 0, none⟩ = some (.int .i64 pn) := fun xq => below_cell xq.ok (heap_cell HBp.out (j := 0) rfl)
            have xx1 : ∀ xq : Among (Below wr.heap.size wr), xq.val.cell? ⟨Bp, 1, none⟩ = some (.int .i64 pd) := fun xq => below_cell xq.ok (heap_cell HBp.out (j := 1) rfl)
            have xx2 : ∀ xq : Among (Below wr.heap.size wr), xq.val.cell? ⟨(Bp + 1), 0, none⟩ = some (.int .i64 on) := fun xq => below_cell xq.ok (heap_cell HBo.out (j := 0) rfl)
            have xx3 : ∀ xq : Among (Below wr.heap.size wr), xq.val.cell? ⟨(Bp + 1), 1, none⟩ = some (.int .i64 od) := fun xq => below_cell xq.ok (heap_cell HBo.out (j := 1) rfl)
            have xx4 : ∀ xq : Among (Below wr.heap.size wr), xq.val.cell? ⟨Bl, 0, none⟩ = some (.int .i64 ln) := fun xq => below_cell xq.ok (heap_cell HBl.out (j := 0) rfl)
            have xx5 : ∀ xq : Among (Below wr.heap.size wr), xq.val.cell? ⟨Bl, 1, none⟩ = some (.int .i64 ld) := fun xq => below_cell xq.ok (heap_cell HBl.out (j := 1) rfl)
            have xx6 : ∀ xq : Among (Below wr.heap.size wr), xq.val.cell? ⟨Bh, 0, none⟩ = some (.int .i64 hn) := fun xq => below_cell xq.ok (heap_cell HBh.out (j := 0) rfl)
            have xx7 : ∀ xq : Among (Below wr.heap.size wr), xq.val.cell? ⟨Bh, 1, none⟩ = some (.int .i64 hd') := fun xq => below_cell xq.ok (heap_cell HBh.out (j := 1) rfl)
            have xx8 : ∀ xq : Among (Below wr.heap.size wr), xq.val.cell? ⟨Bx, 0, none⟩ = some (.int .i64 x1) := fun xq => below_cell xq.ok (heap_cell HX.out (j := 0) rfl)
            have xx9 : ∀ xq : Among (Below wr.heap.size wr), xq.val.cell? ⟨Bx, 3, none⟩ = some (.int .i64 x2) := fun xq => below_cell xq.ok (heap_cell HX.out (j := 3) rfl)
            have HD1 : Hid (∀ xq : Among (Below wr.heap.size wr), Calls Try.prog 36 #[.agg #[.int .i64 ln, .int .i64 ld], .agg #[.int .i64 pn, .int .i64 pd]] xq.val fun e w' => e = .returned (.bool true) ∧ ∃ y : Among (Below wr.heap.size wr), w' = y.val) := Lib.hid (fun xq => calls_class ((hA1.out xq.val).mono fun e w' h => ⟨h.1, xq.ok.trans (h.2.mono xq.ok.size)⟩))
            have HD2 : Hid (∀ xq : Among (Below wr.heap.size wr), Calls Try.prog 36 #[.agg #[.int .i64 pn, .int .i64 pd], .agg #[.int .i64 hn, .int .i64 hd']] xq.val fun e w' => e = .returned (.bool true) ∧ ∃ y : Among (Below wr.heap.size wr), w' = y.val) := Lib.hid (fun xq => calls_class ((hA2.out xq.val).mono fun e w' h => ⟨h.1, xq.ok.trans (h.2.mono xq.ok.size)⟩))
            have HD3 : Hid (∀ xq : Among (Below wr.heap.size wr), Calls Try.prog 36 #[.agg #[.int .i64 x1, .int .i64 1], .agg #[.int .i64 on, .int .i64 od]] xq.val fun e w' => e = .returned (.bool true) ∧ ∃ y : Among (Below wr.heap.size wr), w' = y.val) := Lib.hid (fun xq => calls_class ((hA3.out xq.val).mono fun e w' h => ⟨h.1, xq.ok.trans (h.2.mono xq.ok.size)⟩))
            have HD4 : Hid (∀ xq : Among (Below wr.heap.size wr), Calls Try.prog 36 #[.agg #[.int .i64 on, .int .i64 od], .agg #[.int .i64 (x1 + x2), .int .i64 1]] xq.val fun e w' => e = .returned (.bool true) ∧ ∃ y : Among (Below wr.heap.size wr), w' = y.val) := Lib.hid (fun xq => calls_class ((hA4.out xq.val).mono fun e w' h => ⟨h.1, xq.ok.trans (h.2.mono xq.ok.size)⟩))
            have HE1 : Hid (∀ xq : Among (Below wr.heap.size wr), Calls Try.prog 31 #[.int .i64 x1, .int .i64 1] xq.val fun e w' => e = .returned (.agg #[.int .i64 x1, .int .i64 1]) ∧ ∃ y : Among (Below wr.heap.size wr), w' = y.val) := Lib.hid (fun xq => calls_class ((newPart_any _ _ xq.val).mono fun e w' h => ⟨h.1, xq.ok.trans (h.2.mono xq.ok.size)⟩))
            have HE2 : Hid (∀ xq : Among (Below wr.heap.size wr), Calls Try.prog 31 #[.int .i64 (x1 + x2), .int .i64 1] xq.val fun e w' => e = .returned (.agg #[.int .i64 (x1 + x2), .int .i64 1]) ∧ ∃ y : Among (Below wr.heap.size wr), w' = y.val) := Lib.hid (fun xq => calls_class ((newPart_any _ _ xq.val).mono fun e w' h => ⟨h.1, xq.ok.trans (h.2.mono xq.ok.size)⟩))
            have HSt : Hid (Below wr.heap.size wr wr.drew) := Lib.hid (Below.refl _ _).drew
            have hne : Nonempty (Among (Below wr.heap.size wr)) := ⟨⟨_, HSt.out⟩⟩
            refine wp_region_class (Below wr.heap.size wr) (by kernel_rfl) (by kernel_rfl) HSt.out ?_
            repeat (go_big_quiet_step ((first | (go_at_call 36; first | with_reducible exact HD1.out _ | with_reducible exact HD2.out _ | with_reducible exact HD3.out _ | with_reducible exact HD4.out _) | (go_at_call 31; first | with_reducible exact HE1.out _ | with_reducible exact HE2.out _))))
            refine wpQuiet_nil ?_
            intro w8 hx
            have hB8 := among_out hx
            clear hx
            have HB8 := Lib.hid hB8
            clear hB8 hne xx0 xx1 xx2 xx3 xx4 xx5 xx6 xx7 xx8 xx9
            go_wp2_with fail
            go_meet
            exact ⟨rfl, HB8.out⟩
        case rest =>
          obtain ⟨z1, rfl⟩ : ∃ x, x = wc := ⟨_, rfl⟩
          obtain ⟨rfl, hb⟩ := hcut
          clear HBp HBo HBl HBh t1
          replace HC := Lib.hid (heap_lift HC.out hb)
          replace HX := Lib.hid (heap_lift HX.out hb)
          replace HB := Lib.hid (below_then HB.out hb)
          clear hb
          have k0 := heap_cell HX.out (j := 0) rfl
          have k1 := heap_cell HX.out (j := 1) rfl
          have k2 := heap_cell HX.out (j := 2) rfl
          have k3 := heap_cell HX.out (j := 3) rfl
          have k4 := heap_cell HX.out (j := 4) rfl
          have kf := heap_frozen HX.out 4
          go_upto_region 24 with fail
          go_cut [16] (fun s wx => s = .pointer (some ⟨Bx, 0, none⟩) ∧ wx.heap[Bc]? = some (.cells #[.int .i64 b, .int .i64 lo, .int .i64 hi] 25) ∧ wx.heap[Bx]? = some (.cells #[.int .i64 x1, .int .i64 a, .int .i64 r, .int .i64 x2, .int .i64 T] 29) ∧ Below w.heap.size w wx)
          case first =>
            have hne : Bc ≠ Bx := by have := HLT.out; omega
            have hps := HPS.out
            by_cases hm : t ≤ r
            · obtain rfl : t = T := by have := hT.out; omega
              go_wp2_with fail
              go_meet
              exact ⟨rfl, (Below.heap_setCell _ _ _ _ hne).trans HC.out, (dbl_set HX.out _).2.2.2.2, HB.out.setCell (p := ⟨Bx, 4, none⟩) hps _⟩
            · obtain rfl : r = T := by have := hT.out; omega
              go_wp2_with fail
              go_meet
              exact ⟨rfl, (Below.heap_setCell _ _ _ _ hne).trans HC.out, (dbl_set HX.out _).2.2.2.2, HB.out.setCell (p := ⟨Bx, 4, none⟩) hps _⟩
          case rest =>
            obtain ⟨z2, rfl⟩ : ∃ x, x = wc := ⟨_, rfl⟩
            obtain ⟨rfl, hcc, hxx, hbb'⟩ := hcut
            replace HC := Lib.hid hcc
            replace HX := Lib.hid hxx
            replace HB := Lib.hid hbb'
            clear hcc hxx hbb' k0 k1 k2 k3 k4 kf
            have k0 := heap_cell HX.out (j := 0) rfl
            have k1 := heap_cell HX.out (j := 1) rfl
            have k2 := heap_cell HX.out (j := 2) rfl
            have k3 := heap_cell HX.out (j := 3) rfl
            have k4 := heap_cell HX.out (j := 4) rfl
            have kf := heap_frozen HX.out 3
            go_upto_region 26 with fail
            clear k0 k1 k2 k3 k4 kf
            replace HC := Lib.hid ((Below.heap_setCell z2 ⟨Bx, 3, none⟩ (.int .i64 0) Bc (by have := HLT.out; simp; omega)).trans HC.out)
            replace HB := Lib.hid (HB.out.setCell (p := ⟨Bx, 3, none⟩) HPS.out (.int .i64 0))
            replace HX := Lib.hid ((dbl_set HX.out (.int .i64 0)).2.2.2.1)
            obtain ⟨z3, hwn⟩ : ∃ v, z2.setCell ⟨Bx, 3, none⟩ (.int .i64 0) = v := ⟨_, rfl⟩
            rw [hwn] at HB HX HC
            rw [hwn]
            clear hwn
            have c0 := heap_cell HC.out (j := 0) rfl
            have c1 := heap_cell HC.out (j := 1) rfl
            have c2 := heap_cell HC.out (j := 2) rfl
            have k0 := heap_cell HX.out (j := 0) rfl
            have k1 := heap_cell HX.out (j := 1) rfl
            have k2 := heap_cell HX.out (j := 2) rfl
            have k3 := heap_cell HX.out (j := 3) rfl
            have k4 := heap_cell HX.out (j := 4) rfl
            go_wp2_with fail
            refine (twiceR hQ _).mono ?_
            rintro e z4 ⟨rfl, hb1⟩
            have hb2 := (hb1.alloc hb1.size (.cells #[.int .i64 qn, .int .i64 qd] 31)).alloc (by have := hb1.size; simp; omega) (.cells #[.int .i64 x1, .int .i64 1] 31)
            replace HC := Lib.hid (heap_lift HC.out hb2)
            replace HX := Lib.hid (heap_lift HX.out hb2)
            replace HB := Lib.hid (below_then HB.out hb2)
            have hx1 := heap_up (heap_top z4 (.cells #[.int .i64 qn, .int .i64 qd] 31) rfl) (.cells #[.int .i64 x1, .int .i64 1] 31)
            have hx2 := heap_top (z4.alloc (.cells #[.int .i64 qn, .int .i64 qd] 31)) (.cells #[.int .i64 x1, .int .i64 1] 31) rfl
            obtain ⟨Bq, hBq⟩ : ∃ B, z4.heap.size = B := ⟨_, rfl⟩
            have hB2 : (z4.alloc (.cells #[.int .i64 qn, .int .i64 qd] 31)).heap.size = Bq + 1 := by rw [← hBq]; simp
            obtain ⟨z5, hz5⟩ : ∃ v, (z4.alloc (.cells #[.int .i64 qn, .int .i64 qd] 31)).alloc (.cells #[.int .i64 x1, .int .i64 1] 31) = v := ⟨_, rfl⟩
            rw [hB2] at hx2
            rw [hBq] at hx1
            rw [hz5] at HC HX HB hx1 hx2
            have HBq := Lib.hid hx1
            have HBi := Lib.hid hx2
            clear hb1 hb2 hx1 hx2
            clear c0 c1 c2 k0 k1 k2 k3 k4
            have c0 := heap_cell HC.out (j := 0) rfl
            have c1 := heap_cell HC.out (j := 1) rfl
            have c2 := heap_cell HC.out (j := 2) rfl
            have k0 := heap_cell HX.out (j := 0) rfl
            have k1 := heap_cell HX.out (j := 1) rfl
            have k2 := heap_cell HX.out (j := 2) rfl
            have k3 := heap_cell HX.out (j := 3) rfl
            have k4 := heap_cell HX.out (j := 4) rfl
            go_upto_region 27 with fail
            clear hBq hB2 hz5
            go_cut [30, 31] (fun s t wx => BoxAt wx s #[.int .i64 qn, .int .i64 qd] 31 z5.heap.size ∧ t = .int .i64 0 ∧ Below z5.heap.size z5 wx)
            case first =>
              by_cases hm : T ≤ r - 1
              · have hmin : min T (r - 1) = T := by omega
                have hO' := hO
                rw [hmin] at hO'
                go_wp2_with fail
                refine (acceptsV hc.out d0 d1 (show 0 ≤ x1 by omega) (by omega) (show 0 ≤ T by omega) (by omega) hO' _).mono ?_
                rintro e z6 ⟨rfl, hb⟩
                go_wp2_with fail
                go_meet
                exact ⟨(box_last hb _ _).1, rfl, (box_last hb _ _).2⟩
              · have hmin : min T (r - 1) = r - 1 := by omega
                have hO' := hO
                rw [hmin] at hO'
                go_wp2_with fail
                refine (acceptsV hc.out d0 d1 (show 0 ≤ x1 by omega) (by omega) (show 0 ≤ r - 1 by omega) (by omega) hO' _).mono ?_
                rintro e z6 ⟨rfl, hb⟩
                go_wp2_with fail
                go_meet
                exact ⟨(box_last hb _ _).1, rfl, (box_last hb _ _).2⟩
            case rest =>
              obtain ⟨z7, rfl⟩ : ∃ x, x = wc := ⟨_, rfl⟩
              obtain ⟨⟨Bn, rfl, hn', hhn⟩, rfl, hb⟩ := hcut
              clear c0 c1 c2 k0 k1 k2 k3 k4
              replace HX := Lib.hid (heap_lift HX.out hb)
              replace HBq := Lib.hid (heap_lift HBq.out hb)
              replace HBi := Lib.hid (heap_lift HBi.out hb)
              replace HB := Lib.hid (below_then HB.out hb)
              have HBn := Lib.hid hhn
              clear hb hn' hhn HC
              go_wp2_with fail
              have xx0 : ∀ xq : Among (Below z7.heap.size z7), xq.val.cell? ⟨Bq, 0, none⟩ = some (.int .i64 qn) := fun xq => below_cell xq.ok (heap_cell HBq.out (j := 0) rfl)
              have xx1 : ∀ xq : Among (Below z7.heap.size z7), xq.val.cell? ⟨Bq, 1, none⟩ = some (.int .i64 qd) := fun xq => below_cell xq.ok (heap_cell HBq.out (j := 1) rfl)
              have xx2 : ∀ xq : Among (Below z7.heap.size z7), xq.val.cell? ⟨(Bq + 1), 0, none⟩ = some (.int .i64 x1) := fun xq => below_cell xq.ok (heap_cell HBi.out (j := 0) rfl)
              have xx3 : ∀ xq : Among (Below z7.heap.size z7), xq.val.cell? ⟨(Bq + 1), 1, none⟩ = some (.int .i64 1) := fun xq => below_cell xq.ok (heap_cell HBi.out (j := 1) rfl)
              have xx4 : ∀ xq : Among (Below z7.heap.size z7), xq.val.cell? ⟨Bn, 0, none⟩ = some (.int .i64 qn) := fun xq => below_cell xq.ok (heap_cell HBn.out (j := 0) rfl)
              have xx5 : ∀ xq : Among (Below z7.heap.size z7), xq.val.cell? ⟨Bn, 1, none⟩ = some (.int .i64 qd) := fun xq => below_cell xq.ok (heap_cell HBn.out (j := 1) rfl)
              have xx6 : ∀ xq : Among (Below z7.heap.size z7), xq.val.cell? ⟨Bx, 0, none⟩ = some (.int .i64 x1) := fun xq => below_cell xq.ok (heap_cell HX.out (j := 0) rfl)
              have HE1 : Hid (∀ xq : Among (Below z7.heap.size z7), Calls Try.prog 31 #[.int .i64 x1, .int .i64 1] xq.val fun e w' => e = .returned (.agg #[.int .i64 x1, .int .i64 1]) ∧ ∃ y : Among (Below z7.heap.size z7), w' = y.val) := Lib.hid (fun xq => calls_class ((newPart_any _ _ xq.val).mono fun e w' h => ⟨h.1, xq.ok.trans (h.2.mono xq.ok.size)⟩))
              have HSt : Hid (Below z7.heap.size z7 z7.drew) := Lib.hid (Below.refl _ _).drew
              have hne : Nonempty (Among (Below z7.heap.size z7)) := ⟨⟨_, HSt.out⟩⟩
              refine wp_region_class (Below z7.heap.size z7) (by kernel_rfl) (by kernel_rfl) HSt.out ?_
              repeat (go_big_quiet_step ((first | (go_at_call 31; with_reducible exact HE1.out _))))
              refine wpQuiet_nil ?_
              intro w8 hx
              have hB8 := among_out hx
              clear hx
              have HB8 := Lib.hid hB8
              clear hB8 hne xx0 xx1 xx2 xx3 xx4 xx5 xx6
              go_wp2_with fail
              go_ret
              exact ⟨rfl, below_then HB.out HB8.out⟩

theorem low_two {n d m e : Int} (hn : 0 ≤ n) (hd : 0 < d) (hm : 0 ≤ m) (he : 0 < e) (h : n * e ≤ m * d) : Pure.leP (n / Pure.gcd n d) (d / Pure.gcd n d) (m / Pure.gcd m e) (e / Pure.gcd m e) = true := by
  unfold Pure.leP
  rw [decide_eq_true_eq]
  exact Pure.le_low hn hd hm he h
theorem low_left {p m e : Int} (hm : 0 ≤ m) (he : 0 < e) (h : p * e ≤ m) : Pure.leP p 1 (m / Pure.gcd m e) (e / Pure.gcd m e) = true := by
  unfold Pure.leP
  rw [decide_eq_true_eq, Pure.low_ge hm he, Int.mul_one]
  exact h
theorem low_right {p m e : Int} (hm : 0 ≤ m) (he : 0 < e) (h : m ≤ p * e) : Pure.leP (m / Pure.gcd m e) (e / Pure.gcd m e) p 1 = true := by
  unfold Pure.leP
  rw [decide_eq_true_eq, Pure.low_le hm he, Int.mul_one]
  exact h

/-- The walk of SampleTwice. -/
theorem twice_walk (b lo hi x q1 q2 q3 q4 q5 : Int) (y0 : 0 ≤ x) (y1 : x ≤ 255) (q10 : 0 ≤ q1) (q11 : q1 ≤ 255) (q20 : 0 ≤ q2) (q21 : q2 ≤ 255) (q30 : 0 ≤ q3) (q31 : q3 ≤ 255) (q40 : 0 ≤ q4) (q41 : q4 ≤ 255) (q50 : 0 ≤ q5) (q51 : q5 ≤ 255) (w : World) :
    Calls Try.prog 8 #[cargoV b lo hi, .int .u8 x, .int .u8 q1, .int .u8 q2, .int .u8 q3, .int .u8 q4, .int .u8 q5] w fun e w' => e = .returned (.bool true) ∧ Below w.heap.size w w' := by
  cases hok : Pure.okCargo b lo hi with
  | false => exact twice_bad b lo hi x q1 q2 q3 q4 q5 (Lib.hid hok) w
  | true =>
    have hk := hok
    unfold Pure.okCargo at hk
    rw [decide_eq_true_eq] at hk
    obtain ⟨b1, b2, l0, l1, hb⟩ := hk
    have e0 : 0 ≤ x % (hi - lo + 1) := Int.emod_nonneg _ (by omega)
    have e1 : x % (hi - lo + 1) < hi - lo + 1 := Int.emod_lt_of_pos _ (by omega)
    obtain ⟨d, hd⟩ : ∃ d, lo + x % (hi - lo + 1) = d := ⟨_, rfl⟩
    have d0 : lo ≤ d := by omega
    have d1 : d ≤ hi := by omega
    clear e0 e1
    have e0 : 0 ≤ q1 % (b + 1) := Int.emod_nonneg _ (by omega)
    have e1 : q1 % (b + 1) < b + 1 := Int.emod_lt_of_pos _ (by omega)
    obtain ⟨x1, hx1⟩ : ∃ x1, q1 % (b + 1) = x1 := ⟨_, rfl⟩
    rw [hx1] at e0 e1
    have e2 : 0 ≤ q4 % (b - x1 + 1) := Int.emod_nonneg _ (by omega)
    have e3 : q4 % (b - x1 + 1) < b - x1 + 1 := Int.emod_lt_of_pos _ (by omega)
    obtain ⟨x2, hx2⟩ : ∃ x2, q4 % (b - x1 + 1) = x2 := ⟨_, rfl⟩
    rw [hx2] at e2 e3
    have e4 : 0 ≤ q2 % (x1 + 1) := Int.emod_nonneg _ (by omega)
    have e5 : q2 % (x1 + 1) < x1 + 1 := Int.emod_lt_of_pos _ (by omega)
    obtain ⟨a, ha⟩ : ∃ a, q2 % (x1 + 1) = a := ⟨_, rfl⟩
    rw [ha] at e4 e5
    have e6 : 0 ≤ q3 % (x1 - a + 1) := Int.emod_nonneg _ (by omega)
    have e7 : q3 % (x1 - a + 1) < x1 - a + 1 := Int.emod_lt_of_pos _ (by omega)
    obtain ⟨r, hr⟩ : ∃ r, a + 1 + q3 % (x1 - a + 1) = r := ⟨_, rfl⟩
    have r0 : a + 1 ≤ r := by omega
    have r1 : r ≤ x1 + 1 := by omega
    have e8 : 0 ≤ q5 % (r + x2 - a + 1) := Int.emod_nonneg _ (by omega)
    have e9 : q5 % (r + x2 - a + 1) < r + x2 - a + 1 := Int.emod_lt_of_pos _ (by omega)
    obtain ⟨t, ht⟩ : ∃ t, a + q5 % (r + x2 - a + 1) = t := ⟨_, rfl⟩
    have t0 : a ≤ t := by omega
    have t1 : t ≤ r + x2 := by omega
    have T0 : a ≤ min t r := by omega
    have T1 : min t r ≤ r := by omega
    have hin : Pure.okIn lo hi d = true := by unfold Pure.okIn; rw [decide_eq_true_eq]; omega
    have hD : Pure.twiceE b lo hi x1 a r x2 t d = 0 := by
      unfold Pure.twiceE
      rw [hok, hin, show Pure.okDouble b x1 a r x2 t = true by unfold Pure.okDouble; rw [decide_eq_true_eq]; omega]
      rfl
    have hD2 : Pure.twiceE b lo hi x1 a r 0 (min t r) d = 0 := by
      unfold Pure.twiceE
      rw [hok, hin, show Pure.okDouble b x1 a r 0 (min t r) = true by unfold Pure.okDouble; rw [decide_eq_true_eq]; omega]
      rfl
    obtain ⟨S, hS⟩ : ∃ S, Pure.sets b x1 = S := ⟨_, rfl⟩
    obtain ⟨U, hU⟩ : ∃ U, Pure.sets (b - x1) x2 = U := ⟨_, rfl⟩
    have s0 : 0 < S := by rw [← hS]; exact Pure.sets_pos (by omega) (by omega)
    have s1 : S ≤ 68719476736 := by rw [← hS]; exact Pure.sets_le b2
    have u0 : 0 < U := by rw [← hU]; exact Pure.sets_pos (by omega) (by omega)
    have su0 : 0 < S * U := Int.mul_pos s0 u0
    have su1 : S * U ≤ 150094635296999121 := by rw [← hS, ← hU]; exact Pure.two_sets (by omega) b2 (by omega) (by omega)
    obtain ⟨P, hP⟩ : ∃ P, Pure.taken b d x1 a r x2 t = P := ⟨_, rfl⟩
    obtain ⟨O, hO⟩ : ∃ O, Pure.opens b d x1 a r x2 = O := ⟨_, rfl⟩
    obtain ⟨L, hL⟩ : ∃ L, Pure.few b d x1 a = L := ⟨_, rfl⟩
    obtain ⟨H, hH⟩ : ∃ H, Pure.few b d x1 (r - 1) = H := ⟨_, rfl⟩
    have P0 : 0 ≤ P := by rw [← hP]; exact Pure.taken_nonneg
    have P1 : P ≤ 5553501505988967477 := by rw [← hP]; exact Pure.taken_le (by omega) b2 (by omega) (by omega) (by omega) (by omega) (by omega)
    have O0 : 0 ≤ O := by rw [← hO]; exact Pure.opens_nonneg (by omega) (by omega)
    have L0 : 0 ≤ L := by rw [← hL]; exact Pure.few_nonneg
    have H0 : 0 ≤ H := by rw [← hH]; exact Pure.few_nonneg
    have L1 : L ≤ S := by rw [← hL, ← hS]; exact Pure.few_le_all (by omega) (by omega) (by omega) (by omega) (by omega)
    have H1 : H ≤ S := by rw [← hH, ← hS]; exact Pure.few_le_all (by omega) (by omega) (by omega) (by omega) (by omega)
    have O1 : x1 * S ≤ O := by rw [← hO, ← hS]; exact Pure.opens_low (by omega) (by omega) (by omega) (by omega)
    have O2 : O ≤ (x1 + x2) * S := by rw [← hO, ← hS]; exact Pure.opens_high (by omega) (by omega) (by omega) (by omega)
    have O3 : (x1 + x2) * S ≤ 36 * 68719476736 := Int.mul_le_mul (by omega) s1 (by omega) (by decide)
    have LP : L * U ≤ P := by rw [← hL, ← hU, ← hP]; exact Pure.taken_low (by rw [hU]; omega)
    have PH : P ≤ H * U := by rw [← hP, ← hH, ← hU]; exact Pure.taken_high (by omega) (by omega) (by omega) (by omega) (by omega) r0 r1
    have pn := Pure.low_num (n := P) P0 su0
    have pd := Pure.low_den (n := P) P0 su0
    have on := Pure.low_num (n := O) O0 s0
    have od := Pure.low_den (n := O) O0 s0
    have ln := Pure.low_num (n := L) L0 s0
    have ld := Pure.low_den (n := L) L0 s0
    have hn := Pure.low_num (n := H) H0 s0
    have hd' := Pure.low_den (n := H) H0 s0
    have hSame : Pure.taken b d x1 a r 0 (min t r) = Pure.few b d x1 (min (min t r) (r - 1)) := Pure.taken_same (by omega) (by omega) (by omega) (by omega) r0 T0
    have hOne : Pure.sets (b - x1) 0 = 1 := by
      rw [Pure.sets_some (Int.le_refl _) (by omega)]
      show ((Pure.ch _ 0 : Nat) : Int) = 1
      rw [Pure.ch_zero]
      rfl
    have hOp := Pure.low_whole (n := x1) (S := S) (by omega) s0
    refine twice_good b lo hi x q1 q2 q3 q4 q5 x1 a r x2 t d (min t r) (Lib.hid hok) b1 b2 l0 l1 (by omega) y0 y1 q10 q11 q20 q21 q30 q31 q40 q41 q50 q51
      (Lib.hid hx1) (Lib.hid hx2) (Lib.hid ha) (Lib.hid hr) (Lib.hid ht) (Lib.hid hd) d0 d1 e0 (by omega) e2 (by omega) e4 (by omega) r0 r1 t0 t1 (Lib.hid rfl) T0 T1
      (pn := P / Pure.gcd P (S * U)) (pd := S * U / Pure.gcd P (S * U)) (on := O / Pure.gcd O S) (od := S / Pure.gcd O S) (ln := L / Pure.gcd L S) (ld := S / Pure.gcd L S) (hn := H / Pure.gcd H S) (hd' := S / Pure.gcd H S)
      (qn := Pure.few b d x1 (min (min t r) (r - 1)) / Pure.gcd (Pure.few b d x1 (min (min t r) (r - 1))) S) (qd := S / Pure.gcd (Pure.few b d x1 (min (min t r) (r - 1))) S)
      (Lib.hid ?_) (Lib.hid ?_) (Lib.hid ?_) (Lib.hid ?_) (Lib.hid ?_) pn.1 pd.1 on.1 od.1 ln.1 ld.1 hn.1 hd'.1 (Lib.hid ?_) (Lib.hid ?_) (Lib.hid ?_) (Lib.hid ?_) w
    · rw [Pure.twiceV_zero hD, hP, hO, hS, hU]
    · rw [hL, hS]
    · rw [hH, hS]
    · rw [Pure.twiceV_zero hD2, hSame, Pure.opens_same (by omega) (by omega) (by omega), hOne, Int.mul_one, hS]
      show Value.tuple #[.agg #[.int .i64 _, .int .i64 _], .agg #[.int .i64 _, .int .i64 _], .int .i64 0] = _
      rw [hOp.1, hOp.2]
    · rw [hS]
    · intro w
      exact atMostYes (Lib.hid (low_two L0 s0 P0 su0 (by
        have h := Int.mul_le_mul_of_nonneg_right LP (show 0 ≤ S by omega)
        rw [Int.mul_assoc, Int.mul_comm U S] at h
        exact h))) ln.1 (by omega) (by omega) (by omega) pn.1 (by omega) (by omega) (by omega) w
    · intro w
      exact atMostYes (Lib.hid (low_two P0 su0 H0 s0 (by
        have h := Int.mul_le_mul_of_nonneg_right PH (show 0 ≤ S by omega)
        rw [Int.mul_assoc, Int.mul_comm U S] at h
        exact h))) pn.1 (by omega) (by omega) (by omega) hn.1 (by omega) (by omega) (by omega) w
    · intro w
      exact atMostYes (Lib.hid (low_left O0 s0 O1)) (by omega) (by omega) (by decide) (by decide) on.1 (by omega) (by omega) (by omega) w
    · intro w
      exact atMostYes (Lib.hid (low_right O0 s0 O2)) on.1 (by omega) (by omega) (by omega) (by omega) (by omega) (by decide) (by decide) w

end Go.Proofs.Ytiiecehmldipmaa
