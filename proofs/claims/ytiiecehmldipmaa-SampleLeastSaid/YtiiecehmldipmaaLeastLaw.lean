/-
  SampleLeast: the walk of the law.
-/
import Derived.Test.YtiiecehmldipmaaAlive
import Derived.Test.YtiiecehmldipmaaOver
import Derived.Test.YtiiecehmldipmaaGood
import Derived.Test.YtiiecehmldipmaaAccepts
import Derived.Test.YtiiecehmldipmaaLeastMath
namespace Go.Proofs.Ytiiecehmldipmaa
open Go.RowKit Go.Shelf

theorem ok_two {p q r s : Int} (p0 : 0 ≤ p) (p1 : p ≤ q) (q0 : 1 ≤ q) (q1 : q ≤ 1000) (r0 : 0 ≤ r) (r1 : r ≤ s) (s0 : 1 ≤ s) (s1 : s ≤ 1000) : Pure.okParts 2 (Pure.two p r) (Pure.two q s) = true := Pure.okParts_true (fun j hj => by
  have hj2 : j = 0 ∨ j = 1 := by omega
  rcases hj2 with rfl | rfl
  · exact ⟨q0, q1, p0, p1⟩
  · exact ⟨s0, s1, r0, r1⟩)
theorem ok_pair {lo hi good bad : Int} (g0 : lo ≤ good) (g1 : good < bad) (g2 : bad ≤ hi) : (Pure.okIn lo hi good && Pure.okIn lo hi bad) = true := by
  unfold Pure.okIn
  simp only [Bool.and_eq_true, decide_eq_true_eq]
  omega
theorem ok_rule {b x y : Int} (x0 : 0 ≤ x) (x1 : x ≤ b) (y0 : 0 ≤ y) (y1 : y ≤ x) : Pure.okDraw b x y = true := by unfold Pure.okDraw; rw [decide_eq_true_eq]; omega
/-- What Least, Good and Accepts answer, given by their values. -/
theorem leastRule {b lo hi good bad p q r s X Y : Int} (hc : Pure.okCargo b lo hi = true) (g0 : lo ≤ good) (g1 : good < bad) (g2 : bad ≤ hi) (p0 : 0 ≤ p) (p1 : p ≤ q) (q0 : 1 ≤ q) (q1 : q ≤ 1000) (r0 : 0 ≤ r) (r1 : r ≤ s) (s0 : 1 ≤ s) (s1 : s ≤ 1000)
    (hX : Hid ((Pure.least b.toNat good bad p q r s).1 = X)) (hY : Hid ((Pure.least b.toNat good bad p q r s).2 = Y)) (w : World) :
    Calls Try.prog 17 #[cargoV b lo hi, .int .i64 good, .int .i64 bad, .agg #[.int .i64 p, .int .i64 q], .agg #[.int .i64 r, .int .i64 s]] w fun e w' => e = .returned (.tuple #[.agg #[.int .i64 X, .int .i64 Y], .int .i64 0]) ∧ Below w.heap.size w w' :=
  (least_top b lo hi good bad p q r s w).mono fun _ _ k => ⟨k.1.trans (by
    have hE : Pure.leastE b lo hi good bad p q r s = 0 := by
      unfold Pure.leastE
      rw [hc, ok_pair g0 g1 g2, ok_two p0 p1 q0 q1 r0 r1 s0 s1, decide_eq_true g1]
      rfl
    rw [Pure.pick_zero hE, Pure.pick_zero hE, hE, hX.out, hY.out]), k.2⟩
theorem goodRule {b lo hi x y good bad p q r s : Int} {g : Bool} (hc : Pure.okCargo b lo hi = true) (x0 : 0 ≤ x) (x1 : x ≤ b) (y0 : 0 ≤ y) (y1 : y ≤ x) (g0 : lo ≤ good) (g1 : good < bad) (g2 : bad ≤ hi) (p0 : 0 ≤ p) (p1 : p ≤ q) (q0 : 1 ≤ q) (q1 : q ≤ 1000) (r0 : 0 ≤ r) (r1 : r ≤ s) (s0 : 1 ≤ s) (s1 : s ≤ 1000)
    (h : Hid (Pure.okRule b good bad p q r s (x, y) = g)) (w : World) :
    Calls Try.prog 15 #[cargoV b lo hi, .agg #[.int .i64 x, .int .i64 y], .int .i64 good, .int .i64 bad, .agg #[.int .i64 p, .int .i64 q], .agg #[.int .i64 r, .int .i64 s]] w fun e w' => e = .returned (.tuple #[.bool g, .int .i64 0]) ∧ Below w.heap.size w w' :=
  (good_top b lo hi x y good bad p q r s w).mono fun _ _ k => ⟨k.1.trans (by
    have hE : Pure.goodE b lo hi x y good bad p q r s = 0 := by
      unfold Pure.goodE
      rw [hc, ok_rule x0 x1 y0 y1, ok_pair g0 g1 g2, ok_two p0 p1 q0 q1 r0 r1 s0 s1, decide_eq_true g1]
      rfl
    unfold Pure.goodV
    rw [hE, h.out, decide_eq_true rfl, Bool.true_and]), k.2⟩
theorem acceptsV {b lo hi d o f pn pd : Int} (hc : Pure.okCargo b lo hi = true) (d0 : lo ≤ d) (d1 : d ≤ hi) (o0 : 0 ≤ o) (o1 : o ≤ b) (f0 : 0 ≤ f) (f1 : f ≤ o) (h : Hid (partV (Pure.few b d o f) (Pure.sets b o) = .agg #[.int .i64 pn, .int .i64 pd])) (w : World) :
    Calls Try.prog 10 #[cargoV b lo hi, .agg #[.int .i64 o, .int .i64 f], .int .i64 d] w fun e w' => e = .returned (.tuple #[.agg #[.int .i64 pn, .int .i64 pd], .int .i64 0]) ∧ Below w.heap.size w w' :=
  (accepts_top b lo hi d o f w).mono fun _ _ g => ⟨g.1.trans (by
    have h3 : Pure.okIn lo hi d = true := by unfold Pure.okIn; rw [decide_eq_true_eq]; omega
    rw [Pure.res2_zero (by rw [hc, ok_rule o0 o1 f0 f1, h3]; rfl), h.out]), g.2⟩
theorem two_new {W u : World} (hq : Below W.heap.size W u) (a b c d x y z v : Value) (t : TypeId) :
    TwoAt W ((((((u.alloc (.cells #[a, b] t)).alloc (.cells #[c, d] t)).setCell ⟨u.heap.size, 0, none⟩ x).setCell ⟨u.heap.size, 1, none⟩ y).setCell ⟨u.heap.size + 1, 0, none⟩ z).setCell ⟨u.heap.size + 1, 1, none⟩ v) u.heap.size (u.heap.size + 1) x y z v t :=
  two_old ((hq.alloc hq.size _).alloc (by have := hq.size; simp; omega) _) ⟨hq.size, heap_up (heap_top _ _ rfl) _⟩ ⟨Nat.le_refl _, heap_top _ _ (by simp)⟩ x y z v

set_option maxHeartbeats 4000000 in
set_option maxRecDepth 100000 in
/-- A cargo that is not valid. -/
theorem least_bad (b lo hi x y sn bn op ac : Int) (hc : Hid (Pure.okCargo b lo hi = false)) (w : World) :
    Calls Try.prog 6 #[cargoV b lo hi, .int .u8 x, .int .u8 y, .int .u16 sn, .int .u16 bn, .int .u8 op, .int .u8 ac] w fun e w' => e = .returned (.bool true) ∧ Below w.heap.size w w' := by
  go_enter Try.func6, Try.ntmps6
  go_wp2_with fail
  refine (alive_any _).mono ?_
  rintro e w1 ⟨rfl, hb1⟩
  have hcc := heap_lift (heap_top w (.cells #[.int .i64 b, .int .i64 lo, .int .i64 hi] 25) rfl) hb1
  have HC := Lib.hid hcc
  have c0 := heap_cell hcc (j := 0) rfl
  have c1 := heap_cell hcc (j := 1) rfl
  have c2 := heap_cell hcc (j := 2) rfl
  have HB := Lib.hid (below_then ((Below.refl _ _).alloc (Nat.le_refl _) _) hb1)
  obtain ⟨Bc, hBc⟩ : ∃ Bc, w.heap.size = Bc := ⟨_, rfl⟩
  rw [hBc] at HC c0 c1 c2
  clear hcc hb1
  go_wp2_with fail
  clear hBc
  refine (rCargo_any b lo hi _).mono ?_
  rw [hc.out]
  rintro e w2 ⟨rfl, rfl⟩
  obtain ⟨w2, hw2⟩ : ∃ w2, w1.alloc (.cells #[.int .i64 b, .int .i64 lo, .int .i64 hi] 25) = w2 := ⟨_, rfl⟩
  replace HC := Lib.hid (heap_up HC.out (.cells #[.int .i64 b, .int .i64 lo, .int .i64 hi] 25))
  replace HB := Lib.hid (HB.out.alloc HB.out.size (.cells #[.int .i64 b, .int .i64 lo, .int .i64 hi] 25))
  rw [hw2] at HC HB
  rw [hw2]
  clear c0 c1 c2 hw2
  clear HC
  go_wp2_with fail
  go_ret
  exact ⟨rfl, HB.out⟩

set_option maxHeartbeats 4000000 in
set_option maxRecDepth 100000 in
/-- A cargo with one number. -/
theorem least_one (b lo hi x y sn bn op ac : Int) (hc : Hid (Pure.okCargo b lo hi = true)) (hlh : (lo == hi) = true) (w : World) :
    Calls Try.prog 6 #[cargoV b lo hi, .int .u8 x, .int .u8 y, .int .u16 sn, .int .u16 bn, .int .u8 op, .int .u8 ac] w fun e w' => e = .returned (.bool true) ∧ Below w.heap.size w w' := by
  go_enter Try.func6, Try.ntmps6
  go_wp2_with fail
  refine (alive_any _).mono ?_
  rintro e w1 ⟨rfl, hb1⟩
  have hcc := heap_lift (heap_top w (.cells #[.int .i64 b, .int .i64 lo, .int .i64 hi] 25) rfl) hb1
  have HC := Lib.hid hcc
  have c0 := heap_cell hcc (j := 0) rfl
  have c1 := heap_cell hcc (j := 1) rfl
  have c2 := heap_cell hcc (j := 2) rfl
  have HB := Lib.hid (below_then ((Below.refl _ _).alloc (Nat.le_refl _) _) hb1)
  obtain ⟨Bc, hBc⟩ : ∃ Bc, w.heap.size = Bc := ⟨_, rfl⟩
  rw [hBc] at HC c0 c1 c2
  clear hcc hb1
  go_wp2_with fail
  clear hBc
  refine (rCargo_any b lo hi _).mono ?_
  rw [hc.out]
  rintro e w2 ⟨rfl, rfl⟩
  obtain ⟨w2, hw2⟩ : ∃ w2, w1.alloc (.cells #[.int .i64 b, .int .i64 lo, .int .i64 hi] 25) = w2 := ⟨_, rfl⟩
  replace HC := Lib.hid (heap_up HC.out (.cells #[.int .i64 b, .int .i64 lo, .int .i64 hi] 25))
  replace HB := Lib.hid (HB.out.alloc HB.out.size (.cells #[.int .i64 b, .int .i64 lo, .int .i64 hi] 25))
  rw [hw2] at HC HB
  rw [hw2]
  clear c0 c1 c2 hw2
  have c0 := heap_cell HC.out (j := 0) rfl
  have c1 := heap_cell HC.out (j := 1) rfl
  have c2 := heap_cell HC.out (j := 2) rfl
  go_wp2_with fail
  go_ret
  exact ⟨rfl, HB.out⟩

set_option maxHeartbeats 16000000 in
set_option maxRecDepth 100000 in
theorem least_good (b lo hi x y sn bn op ac good bad p r X Y ox ax S M N an ad cn cd : Int) (g : Bool) (hc : Hid (Pure.okCargo b lo hi = true)) (hlh : (lo == hi) = false) (b1 : 1 ≤ b) (b2 : b ≤ 36) (l0 : 0 ≤ lo) (l1 : lo < hi) (h36 : hi ≤ 36) (hbb : hi ≤ b) (x0 : 0 ≤ x) (x1 : x ≤ 255) (y0 : 0 ≤ y) (y1 : y ≤ 255) (sn0 : 0 ≤ sn) (sn1 : sn ≤ 65535) (bn0 : 0 ≤ bn) (bn1 : bn ≤ 65535) (op0 : 0 ≤ op) (op1 : op ≤ 255) (ac0 : 0 ≤ ac) (ac1 : ac ≤ 255)
    (hgood : Hid (lo + x % (hi - lo) = good)) (hbad : Hid (good + 1 + y % (hi - good) = bad)) (hp : Hid (sn % 1001 = p)) (hr : Hid (bn % 1001 = r)) (g0 : lo ≤ good) (g1 : good < bad) (g2 : bad ≤ hi) (p0 : 0 ≤ p) (p1 : p ≤ 1000) (r0 : 0 ≤ r) (r1 : r ≤ 1000)
    (hX : Hid ((Pure.least b.toNat good bad p 1000 r 1000).1 = X)) (hY : Hid ((Pure.least b.toNat good bad p 1000 r 1000).2 = Y)) (X0 : 0 ≤ X) (X1 : X ≤ b) (Y0 : 0 ≤ Y) (Y1 : Y ≤ X) (hxy : Hid (Pure.okRule b good bad p 1000 r 1000 (X, Y) = true)) (hall : Hid (Pure.okRule b good bad 0 1 0 1 (b, good) = true))
    (hox : Hid (op % (X + 1) = ox)) (hax : Hid (ac % (ox + 1) = ax)) (ox0 : 0 ≤ ox) (ox1 : ox ≤ X) (ax0 : 0 ≤ ax) (ax1 : ax ≤ ox) (hS : Hid (Pure.sets b ox = S)) (s0 : 0 < S) (s1 : S ≤ 68719476736) (M0 : 0 ≤ M) (M1 : M ≤ S) (N0 : 0 ≤ N) (N1 : N ≤ S)
    (hM : Hid (partV (Pure.few b good ox ax) (Pure.sets b ox) = .agg #[.int .i64 an, .int .i64 ad])) (hM2 : Hid (partV M S = .agg #[.int .i64 an, .int .i64 ad])) (hN : Hid (partV (Pure.few b bad ox ax) (Pure.sets b ox) = .agg #[.int .i64 cn, .int .i64 cd])) (hN2 : Hid (partV N S = .agg #[.int .i64 cn, .int .i64 cd])) (ad1 : 1 ≤ ad) (cd1 : 1 ≤ cd)
    (hso : Hid (Pure.okRule b good bad p 1000 r 1000 (ox, ax) = g)) (hg : Hid (g = (decide ((S - M) * 1000 ≤ S * p) && decide (N * 1000 ≤ S * r)))) (hlast : Hid (g = true → ox = X ∧ Y ≤ ax)) (w : World) :
    Calls Try.prog 6 #[cargoV b lo hi, .int .u8 x, .int .u8 y, .int .u16 sn, .int .u16 bn, .int .u8 op, .int .u8 ac] w fun e w' => e = .returned (.bool true) ∧ Below w.heap.size w w' := by
  go_enter Try.func6, Try.ntmps6
  go_wp2_with fail
  refine (alive_any _).mono ?_
  rintro e w1 ⟨rfl, hb1⟩
  have hcc := heap_lift (heap_top w (.cells #[.int .i64 b, .int .i64 lo, .int .i64 hi] 25) rfl) hb1
  have HC := Lib.hid hcc
  have c0 := heap_cell hcc (j := 0) rfl
  have c1 := heap_cell hcc (j := 1) rfl
  have c2 := heap_cell hcc (j := 2) rfl
  have HB := Lib.hid (below_then ((Below.refl _ _).alloc (Nat.le_refl _) _) hb1)
  obtain ⟨Bc, hBc⟩ : ∃ Bc, w.heap.size = Bc := ⟨_, rfl⟩
  rw [hBc] at HC c0 c1 c2
  clear hcc hb1
  go_wp2_with fail
  clear hBc
  refine (rCargo_any b lo hi _).mono ?_
  rw [hc.out]
  rintro e w2 ⟨rfl, rfl⟩
  obtain ⟨w2, hw2⟩ : ∃ w2, w1.alloc (.cells #[.int .i64 b, .int .i64 lo, .int .i64 hi] 25) = w2 := ⟨_, rfl⟩
  replace HC := Lib.hid (heap_up HC.out (.cells #[.int .i64 b, .int .i64 lo, .int .i64 hi] 25))
  replace HB := Lib.hid (HB.out.alloc HB.out.size (.cells #[.int .i64 b, .int .i64 lo, .int .i64 hi] 25))
  rw [hw2] at HC HB
  rw [hw2]
  clear c0 c1 c2 hw2
  have c0 := heap_cell HC.out (j := 0) rfl
  have c1 := heap_cell HC.out (j := 1) rfl
  have c2 := heap_cell HC.out (j := 2) rfl
  go_wp2_with fail
  have t1 : (0 : Int) < hi - lo := by omega
  have t2 : IntKind.i64.wrap x = x := IntWalk.i64_in _ (by omega)
  have t3 : 0 ≤ x % (hi - lo) := Int.emod_nonneg _ (by omega)
  have t4 : x % (hi - lo) < hi - lo := Int.emod_lt_of_pos _ (by omega)
  go_cut [16] (fun s wx => s = .int .i64 good ∧ Below w2.heap.size w2 wx)
  case first =>
    go_quiet (fail)
    go_wp2_with fail
    go_meet
    refine ⟨?_, below_draws _ _⟩
    first | rw [hgood.out] | (rw [← hgood.out]; done)
  case rest =>
    obtain ⟨w3, rfl⟩ : ∃ x, x = wc := ⟨_, rfl⟩
    obtain ⟨rfl, hbc⟩ := hcut
    replace HC := Lib.hid (heap_lift HC.out hbc)
    replace HB := Lib.hid (below_then HB.out hbc)
    clear hbc c0 c1 c2 t1 t2 t3 t4
    have c0 := heap_cell HC.out (j := 0) rfl
    have c1 := heap_cell HC.out (j := 1) rfl
    have c2 := heap_cell HC.out (j := 2) rfl
    have t1 : (0 : Int) < hi - good := by omega
    have t3 : 0 ≤ y % (hi - good) := Int.emod_nonneg _ (by omega)
    have t4 : y % (hi - good) < hi - good := Int.emod_lt_of_pos _ (by omega)
    go_upto_region 6 with fail
    rw [hbad.out]
    clear t1 t3 t4
    go_wp2_with fail
    rw [hp.out]
    refine (newPart_any _ _ _).mono ?_
    rintro e w4 ⟨rfl, hb⟩
    replace HC := Lib.hid (heap_lift HC.out hb)
    replace HB := Lib.hid (below_then HB.out hb)
    clear hb c0 c1 c2
    go_wp2_with fail
    rw [hr.out]
    refine (newPart_any _ _ _).mono ?_
    rintro e w5 ⟨rfl, hb⟩
    replace HC := Lib.hid (heap_lift HC.out hb)
    replace HB := Lib.hid (below_then HB.out hb)
    clear hb
    go_upto_region 7 with fail
    have hx1 := heap_up (heap_top w5 (.cells #[.int .i64 p, .int .i64 1000] 31) rfl) (.cells #[.int .i64 r, .int .i64 1000] 31)
    have hx2 := heap_top (w5.alloc (.cells #[.int .i64 p, .int .i64 1000] 31)) (.cells #[.int .i64 r, .int .i64 1000] 31) rfl
    have hb3 : Below w5.heap.size w5 ((w5.alloc (.cells #[.int .i64 p, .int .i64 1000] 31)).alloc (.cells #[.int .i64 r, .int .i64 1000] 31)) := ((Below.refl _ _).alloc (Nat.le_refl _) _).alloc (by simp) _
    replace HC := Lib.hid (heap_lift HC.out hb3)
    replace HB := Lib.hid (below_then HB.out hb3)
    obtain ⟨Bp, hBp⟩ : ∃ B, w5.heap.size = B := ⟨_, rfl⟩
    have hBr : (w5.alloc (.cells #[.int .i64 p, .int .i64 1000] 31)).heap.size = Bp + 1 := by rw [← hBp]; simp
    obtain ⟨w6, hw6⟩ : ∃ v, (w5.alloc (.cells #[.int .i64 p, .int .i64 1000] 31)).alloc (.cells #[.int .i64 r, .int .i64 1000] 31) = v := ⟨_, rfl⟩
    rw [hBr] at hx2
    rw [hBp] at hx1
    rw [hw6] at HC HB hx1 hx2
    have HBp := Lib.hid hx1
    have HBr := Lib.hid hx2
    rw [hw6, hBp]
    clear hx1 hx2 hb3 hBr hBp hw6
    have c0 := heap_cell HC.out (j := 0) rfl
    have c1 := heap_cell HC.out (j := 1) rfl
    have c2 := heap_cell HC.out (j := 2) rfl
    have e0 := heap_cell HBp.out (j := 0) rfl
    have e1 := heap_cell HBp.out (j := 1) rfl
    have j0 := heap_cell HBr.out (j := 0) rfl
    have j1 := heap_cell HBr.out (j := 1) rfl
    go_wp2_with fail
    refine (leastRule hc.out g0 g1 g2 p0 p1 (by decide) (by decide) r0 r1 (by decide) (by decide) hX hY _).mono ?_
    rintro e v1 ⟨rfl, hb1⟩
    have hb2 := hb1.alloc hb1.size (.cells #[.int .i64 X, .int .i64 Y] 27)
    replace HC := Lib.hid (heap_lift HC.out hb2)
    replace HBp := Lib.hid (heap_lift HBp.out hb2)
    replace HBr := Lib.hid (heap_lift HBr.out hb2)
    replace HB := Lib.hid (below_then HB.out hb2)
    have hx := heap_top v1 (.cells #[.int .i64 X, .int .i64 Y] 27) rfl
    obtain ⟨Bx, hBx⟩ : ∃ B, v1.heap.size = B := ⟨_, rfl⟩
    obtain ⟨v2, hv2⟩ : ∃ v, v1.alloc (.cells #[.int .i64 X, .int .i64 Y] 27) = v := ⟨_, rfl⟩
    rw [hBx] at hx
    rw [hv2] at HC HBp HBr HB hx
    have HBx := Lib.hid hx
    clear hb1 hb2 hx
    clear c0 c1 c2 e0 e1 j0 j1
    have c0 := heap_cell HC.out (j := 0) rfl
    have c1 := heap_cell HC.out (j := 1) rfl
    have c2 := heap_cell HC.out (j := 2) rfl
    have e0 := heap_cell HBp.out (j := 0) rfl
    have e1 := heap_cell HBp.out (j := 1) rfl
    have j0 := heap_cell HBr.out (j := 0) rfl
    have j1 := heap_cell HBr.out (j := 1) rfl
    have k0 := heap_cell HBx.out (j := 0) rfl
    have k1 := heap_cell HBx.out (j := 1) rfl
    go_wp2_with fail
    clear hBx hv2
    refine (goodRule hc.out X0 X1 Y0 Y1 g0 g1 g2 p0 p1 (by decide) (by decide) r0 r1 (by decide) (by decide) hxy _).mono ?_
    rintro e v3 ⟨rfl, hb⟩
    replace HC := Lib.hid (heap_lift HC.out hb)
    replace HBp := Lib.hid (heap_lift HBp.out hb)
    replace HBr := Lib.hid (heap_lift HBr.out hb)
    replace HBx := Lib.hid (heap_lift HBx.out hb)
    replace HB := Lib.hid (below_then HB.out hb)
    clear hb
    clear c0 c1 c2 e0 e1 j0 j1
    clear k0 k1
    go_wp2_with fail
    have HK : Hid (∀ v : World, Below v3.heap.size v3 v → (v.cell? ⟨Bc, 0, none⟩ = some (.int .i64 b) ∧ v.cell? ⟨Bc, 1, none⟩ = some (.int .i64 lo) ∧ v.cell? ⟨Bc, 2, none⟩ = some (.int .i64 hi) ∧ Below v3.heap.size v3 v)) :=
      Lib.hid (fun v k => ⟨below_cell k (heap_cell HC.out (j := 0) rfl), below_cell k (heap_cell HC.out (j := 1) rfl), below_cell k (heap_cell HC.out (j := 2) rfl), k⟩)
    go_cut [24, 25] (fun s t wx => s = .bool true ∧ t = .int .i64 0 ∧ Below v3.heap.size v3 wx)
    case first =>
      as_aux_lemma =>
        go_region_held3 (fun v => v.cell? ⟨Bc, 0, none⟩ = some (.int .i64 b) ∧ v.cell? ⟨Bc, 1, none⟩ = some (.int .i64 lo) ∧ v.cell? ⟨Bc, 2, none⟩ = some (.int .i64 hi) ∧ Below v3.heap.size v3 v)
          (first | exact HK.out _ (Below.refl _ _).drew | with_reducible exact HK.out _ hqu1 | with_reducible exact HK.out _ hqu0)
          (first
            | (go_at_call 31; with_reducible refine (newPart_any _ _ _).mono ?_; rintro e u0 ⟨rfl, hbu0⟩; have hqu0 : Below v3.heap.size v3 u0 := below_then (And.right (And.right (And.right (by assumption)))) hbu0)
            | (go_at_call 15; with_reducible refine (goodRule hc.out (show 0 ≤ b by omega) (Int.le_refl b) (show 0 ≤ good by omega) (show good ≤ b by omega) g0 g1 g2 (Int.le_refl 0) (by decide) (by decide) (by decide) (Int.le_refl 0) (by decide) (by decide) (by decide) hall _).mono ?_; rintro e u1 ⟨rfl, hbu1⟩; have hqu1 : Below v3.heap.size v3 u1 := below_then (And.right (And.right (And.right (by assumption)))) hbu1))
        all_goals
          go_wp2_with fail
          go_meet
          exact ⟨rfl, rfl, hqu1⟩
    case rest =>
      obtain ⟨v4, rfl⟩ : ∃ x, x = wc := ⟨_, rfl⟩
      obtain ⟨rfl, rfl, hb⟩ := hcut
      replace HC := Lib.hid (heap_lift HC.out hb)
      replace HBp := Lib.hid (heap_lift HBp.out hb)
      replace HBr := Lib.hid (heap_lift HBr.out hb)
      replace HBx := Lib.hid (heap_lift HBx.out hb)
      replace HB := Lib.hid (below_then HB.out hb)
      clear hb HK
      have c0 := heap_cell HC.out (j := 0) rfl
      have c1 := heap_cell HC.out (j := 1) rfl
      have c2 := heap_cell HC.out (j := 2) rfl
      have k0 := heap_cell HBx.out (j := 0) rfl
      have k1 := heap_cell HBx.out (j := 1) rfl
      have t1 : (0 : Int) < X + 1 := by omega
      have t3 : 0 ≤ op % (X + 1) := by rw [hox.out]; exact ox0
      have t4 : op % (X + 1) ≤ X := by rw [hox.out]; exact ox1
      go_upto_region 13 with fail
      rw [hox.out]
      clear t1 t3 t4 k0 k1 c0 c1 c2
      have hx := heap_top v4 (.cells #[.int .i64 ox, .int .i64 0] 27) rfl
      have hlt : Bc < v4.heap.size ∧ Bp < v4.heap.size ∧ Bp + 1 < v4.heap.size ∧ Bx < v4.heap.size := ⟨(Array.getElem?_eq_some_iff.1 HC.out).1, (Array.getElem?_eq_some_iff.1 HBp.out).1, (Array.getElem?_eq_some_iff.1 HBr.out).1, (Array.getElem?_eq_some_iff.1 HBx.out).1⟩
      have hb3 : Below v4.heap.size v4 (v4.alloc (.cells #[.int .i64 ox, .int .i64 0] 27)) := (Below.refl _ _).alloc (Nat.le_refl _) _
      replace HC := Lib.hid (heap_lift HC.out hb3)
      replace HBp := Lib.hid (heap_lift HBp.out hb3)
      replace HBr := Lib.hid (heap_lift HBr.out hb3)
      replace HBx := Lib.hid (heap_lift HBx.out hb3)
      have hps : w.heap.size ≤ v4.heap.size := HB.out.size
      replace HB := Lib.hid (below_then HB.out hb3)
      obtain ⟨Bo, hBo⟩ : ∃ B, v4.heap.size = B := ⟨_, rfl⟩
      obtain ⟨v5, hv5⟩ : ∃ v, v4.alloc (.cells #[.int .i64 ox, .int .i64 0] 27) = v := ⟨_, rfl⟩
      rw [hBo] at hx hlt hps
      rw [hv5] at hx HC HB HBp HBr HBx
      rw [hv5, hBo]
      have HBo := Lib.hid hx
      have HPS := Lib.hid hps
      have HLT := Lib.hid hlt
      have k0 := heap_cell HBo.out (j := 0) rfl
      have k1 := heap_cell HBo.out (j := 1) rfl
      have k2 := heap_frozen HBo.out 1
      have t1 : (0 : Int) < ox + 1 := by omega
      clear hx hb3 hlt hps hBo hv5
      go_upto_region 14 with fail
      rw [hax.out]
      clear t1 k0 k1 k2
      replace HC := Lib.hid ((Below.heap_setCell v5 ⟨Bo, 1, none⟩ (.int .i64 ax) Bc (by have := HLT.out; simp; omega)).trans HC.out)
      replace HBp := Lib.hid ((Below.heap_setCell v5 ⟨Bo, 1, none⟩ (.int .i64 ax) Bp (by have := HLT.out; simp; omega)).trans HBp.out)
      replace HBr := Lib.hid ((Below.heap_setCell v5 ⟨Bo, 1, none⟩ (.int .i64 ax) (Bp + 1) (by have := HLT.out; simp; omega)).trans HBr.out)
      replace HBx := Lib.hid ((Below.heap_setCell v5 ⟨Bo, 1, none⟩ (.int .i64 ax) Bx (by have := HLT.out; simp; omega)).trans HBx.out)
      replace HB := Lib.hid (HB.out.setCell (p := ⟨Bo, 1, none⟩) HPS.out (.int .i64 ax))
      replace HBo := Lib.hid (heap_set HBo.out 1 (.int .i64 ax))
      obtain ⟨v6, hv6⟩ : ∃ v, v5.setCell ⟨Bo, 1, none⟩ (.int .i64 ax) = v := ⟨_, rfl⟩
      rw [hv6] at HC HB HBp HBr HBx HBo
      rw [hv6]
      clear hv6
      have c0 := heap_cell HC.out (j := 0) rfl
      have c1 := heap_cell HC.out (j := 1) rfl
      have c2 := heap_cell HC.out (j := 2) rfl
      have e0 := heap_cell HBp.out (j := 0) rfl
      have e1 := heap_cell HBp.out (j := 1) rfl
      have j0 := heap_cell HBr.out (j := 0) rfl
      have j1 := heap_cell HBr.out (j := 1) rfl
      have k0 := heap_cell HBo.out (j := 0) rfl
      have k1 := heap_cell HBo.out (j := 1) rfl
      go_wp2_with fail
      refine (goodRule hc.out ox0 (by omega) ax0 ax1 g0 g1 g2 p0 p1 (by decide) (by decide) r0 r1 (by decide) (by decide) hso _).mono ?_
      rintro e v7 ⟨rfl, hb⟩
      replace HC := Lib.hid (heap_lift HC.out hb)
      replace HBp := Lib.hid (heap_lift HBp.out hb)
      replace HBr := Lib.hid (heap_lift HBr.out hb)
      replace HBx := Lib.hid (heap_lift HBx.out hb)
      replace HBo := Lib.hid (heap_lift HBo.out hb)
      replace HB := Lib.hid (below_then HB.out hb)
      clear hb
      clear c0 c1 c2 e0 e1 j0 j1
      clear k0 k1
      have c0 := heap_cell HC.out (j := 0) rfl
      have c1 := heap_cell HC.out (j := 1) rfl
      have c2 := heap_cell HC.out (j := 2) rfl
      have k0 := heap_cell HBo.out (j := 0) rfl
      have k1 := heap_cell HBo.out (j := 1) rfl
      go_wp2_with fail
      refine (acceptsV hc.out g0 (by omega) ox0 (by omega) ax0 ax1 hM _).mono ?_
      rintro e v8 ⟨rfl, hb1⟩
      have hb2 := hb1.alloc hb1.size (.cells #[.int .i64 an, .int .i64 ad] 31)
      replace HC := Lib.hid (heap_lift HC.out hb2)
      replace HBp := Lib.hid (heap_lift HBp.out hb2)
      replace HBr := Lib.hid (heap_lift HBr.out hb2)
      replace HBx := Lib.hid (heap_lift HBx.out hb2)
      replace HBo := Lib.hid (heap_lift HBo.out hb2)
      replace HB := Lib.hid (below_then HB.out hb2)
      have hx := heap_top v8 (.cells #[.int .i64 an, .int .i64 ad] 31) rfl
      obtain ⟨Ba, hBa⟩ : ∃ B, v8.heap.size = B := ⟨_, rfl⟩
      obtain ⟨v9, hv9⟩ : ∃ v, v8.alloc (.cells #[.int .i64 an, .int .i64 ad] 31) = v := ⟨_, rfl⟩
      rw [hBa] at hx
      rw [hv9] at HC HBp HBr HBx HBo HB hx
      have HBa := Lib.hid hx
      clear hb1 hb2 hx
      clear c0 c1 c2 k0 k1
      have c0 := heap_cell HC.out (j := 0) rfl
      have c1 := heap_cell HC.out (j := 1) rfl
      have c2 := heap_cell HC.out (j := 2) rfl
      have k0 := heap_cell HBo.out (j := 0) rfl
      have k1 := heap_cell HBo.out (j := 1) rfl
      go_wp2_with fail
      clear hBa hv9
      refine (acceptsV hc.out (show lo ≤ bad by omega) g2 ox0 (by omega) ax0 ax1 hN _).mono ?_
      rintro e y1 ⟨rfl, hb1⟩
      have hb2 := hb1.alloc hb1.size (.cells #[.int .i64 cn, .int .i64 cd] 31)
      replace HC := Lib.hid (heap_lift HC.out hb2)
      replace HBp := Lib.hid (heap_lift HBp.out hb2)
      replace HBr := Lib.hid (heap_lift HBr.out hb2)
      replace HBx := Lib.hid (heap_lift HBx.out hb2)
      replace HBo := Lib.hid (heap_lift HBo.out hb2)
      replace HBa := Lib.hid (heap_lift HBa.out hb2)
      replace HB := Lib.hid (below_then HB.out hb2)
      have hx := heap_top y1 (.cells #[.int .i64 cn, .int .i64 cd] 31) rfl
      obtain ⟨Be, hBe⟩ : ∃ B, y1.heap.size = B := ⟨_, rfl⟩
      obtain ⟨y2, hy2⟩ : ∃ v, y1.alloc (.cells #[.int .i64 cn, .int .i64 cd] 31) = v := ⟨_, rfl⟩
      rw [hBe] at hx
      rw [hy2] at HC HBp HBr HBx HBo HBa HB hx
      have HBe := Lib.hid hx
      clear hb1 hb2 hx
      clear c0 c1 c2 k0 k1
      have c0 := heap_cell HC.out (j := 0) rfl
      have c1 := heap_cell HC.out (j := 1) rfl
      have c2 := heap_cell HC.out (j := 2) rfl
      have k0 := heap_cell HBo.out (j := 0) rfl
      have k1 := heap_cell HBo.out (j := 1) rfl
      have m0 := heap_cell HBa.out (j := 0) rfl
      have m1 := heap_cell HBa.out (j := 1) rfl
      have n0 := heap_cell HBe.out (j := 0) rfl
      have n1 := heap_cell HBe.out (j := 1) rfl
      go_wp2_with fail
      clear hBe hy2
      refine (choose_any b ox b2 _).mono ?_
      rw [hS.out]
      rintro e w' ⟨rfl, rfl⟩
      go_wp2_with fail
      refine (overOk M0 M1 s0 s1 hM2 _).mono ?_
      rintro e y3 ⟨rfl, hb⟩
      replace HC := Lib.hid (heap_lift HC.out hb)
      replace HBp := Lib.hid (heap_lift HBp.out hb)
      replace HBr := Lib.hid (heap_lift HBr.out hb)
      replace HBx := Lib.hid (heap_lift HBx.out hb)
      replace HBo := Lib.hid (heap_lift HBo.out hb)
      replace HBe := Lib.hid (heap_lift HBe.out hb)
      replace HB := Lib.hid (below_then HB.out hb)
      clear hb
      clear c0 c1 c2 k0 k1 m0 m1 n0 n1
      have n0 := heap_cell HBe.out (j := 0) rfl
      have n1 := heap_cell HBe.out (j := 1) rfl
      go_wp2_with fail
      refine (overOk N0 N1 s0 s1 hN2 _).mono ?_
      rintro e y4 ⟨rfl, hb⟩
      replace HC := Lib.hid (heap_lift HC.out hb)
      replace HBp := Lib.hid (heap_lift HBp.out hb)
      replace HBr := Lib.hid (heap_lift HBr.out hb)
      replace HBx := Lib.hid (heap_lift HBx.out hb)
      replace HBo := Lib.hid (heap_lift HBo.out hb)
      replace HB := Lib.hid (below_then HB.out hb)
      clear hb n0 n1
      have c0 := heap_cell HC.out (j := 0) rfl
      have c1 := heap_cell HC.out (j := 1) rfl
      have c2 := heap_cell HC.out (j := 2) rfl
      have e0 := heap_cell HBp.out (j := 0) rfl
      have e1 := heap_cell HBp.out (j := 1) rfl
      have j0 := heap_cell HBr.out (j := 0) rfl
      have j1 := heap_cell HBr.out (j := 1) rfl
      have k0 := heap_cell HBo.out (j := 0) rfl
      have k1 := heap_cell HBo.out (j := 1) rfl
      have m0 := heap_cell HBx.out (j := 0) rfl
      have m1 := heap_cell HBx.out (j := 1) rfl
      have u0 : 0 ≤ (S - M) * 1000 := by omega
      have u1 : (S - M) * 1000 ≤ 68719476736000 := by omega
      have u2 : 0 ≤ S * p := Int.mul_nonneg (by omega) p0
      have u3 : S * p ≤ 68719476736000 := Int.le_trans (Int.mul_le_mul s1 p1 p0 (by decide)) (by decide)
      have u4 : 0 ≤ S * r := Int.mul_nonneg (by omega) r0
      have u5 : S * r ≤ 68719476736000 := Int.le_trans (Int.mul_le_mul s1 r1 r0 (by decide)) (by decide)
      by_cases hA : (S - M) * 1000 ≤ S * p
      · by_cases hN' : N * 1000 ≤ S * r
        · obtain rfl : g = true := by rw [hg.out]; simp [hA, hN']
          obtain ⟨rfl, hya⟩ := hlast.out rfl
          go_wp2_with fail
          go_ret
          exact ⟨rfl, HB.out⟩
        · obtain rfl : g = false := by rw [hg.out]; simp [hN']
          go_wp2_with fail
          go_ret
          exact ⟨rfl, HB.out⟩
      · obtain rfl : g = false := by rw [hg.out]; simp [hA]
        go_wp2_with fail
        go_ret
        exact ⟨rfl, HB.out⟩

/-- The walk of SampleLeast. -/
theorem least_walk (b lo hi x y sn bn op ac : Int) (x0 : 0 ≤ x) (x1 : x ≤ 255) (y0 : 0 ≤ y) (y1 : y ≤ 255) (sn0 : 0 ≤ sn) (sn1 : sn ≤ 65535) (bn0 : 0 ≤ bn) (bn1 : bn ≤ 65535) (op0 : 0 ≤ op) (op1 : op ≤ 255) (ac0 : 0 ≤ ac) (ac1 : ac ≤ 255) (w : World) :
    Calls Try.prog 6 #[cargoV b lo hi, .int .u8 x, .int .u8 y, .int .u16 sn, .int .u16 bn, .int .u8 op, .int .u8 ac] w fun e w' => e = .returned (.bool true) ∧ Below w.heap.size w w' := by
  cases hok : Pure.okCargo b lo hi with
  | false => exact least_bad b lo hi x y sn bn op ac (Lib.hid hok) w
  | true =>
    by_cases hlh : lo = hi
    · exact least_one b lo hi x y sn bn op ac (Lib.hid hok) (by simp [hlh]) w
    · have hk := hok
      unfold Pure.okCargo at hk
      rw [decide_eq_true_eq] at hk
      obtain ⟨b1, b2, l0, l1, hb⟩ := hk
      obtain ⟨bm, rfl⟩ : ∃ bm : Nat, b = bm := ⟨b.toNat, by omega⟩
      have e0 : 0 ≤ x % (hi - lo) := Int.emod_nonneg _ (by omega)
      have e1 : x % (hi - lo) < hi - lo := Int.emod_lt_of_pos _ (by omega)
      obtain ⟨good, hgood⟩ : ∃ good, lo + x % (hi - lo) = good := ⟨_, rfl⟩
      have e2 : 0 ≤ y % (hi - good) := Int.emod_nonneg _ (by omega)
      have e3 : y % (hi - good) < hi - good := Int.emod_lt_of_pos _ (by omega)
      obtain ⟨bad, hbad⟩ : ∃ bad, good + 1 + y % (hi - good) = bad := ⟨_, rfl⟩
      obtain ⟨p, hp⟩ : ∃ p, sn % 1001 = p := ⟨_, rfl⟩
      obtain ⟨r, hr⟩ : ∃ r, bn % 1001 = r := ⟨_, rfl⟩
      have p0 : 0 ≤ p := by omega
      have p1 : p ≤ 1000 := by omega
      have r0 : 0 ≤ r := by omega
      have r1 : r ≤ 1000 := by omega
      have g0 : lo ≤ good := by omega
      have g1 : good < bad := by omega
      have g2 : bad ≤ hi := by omega
      obtain ⟨k1, ⟨k2, k3, k4, k5⟩, k6⟩ := Pure.least_some (b := bm) (good := good) (bad := bad) (p := p) (q := 1000) (r := r) (s := 1000) (by omega) g1 (by omega) p0 r0
      obtain ⟨X, hX⟩ : ∃ X, (Pure.least bm good bad p 1000 r 1000).1 = X := ⟨_, rfl⟩
      obtain ⟨Y, hY⟩ : ∃ Y, (Pure.least bm good bad p 1000 r 1000).2 = Y := ⟨_, rfl⟩
      have hxy : Pure.okRule bm good bad p 1000 r 1000 (X, Y) = true := by rw [← hX, ← hY]; exact k1
      rw [hX, hY] at k6
      rw [hX] at k2 k3 k5
      rw [hY] at k4 k5
      have e4 : 0 ≤ op % (X + 1) := Int.emod_nonneg _ (by omega)
      have e5 : op % (X + 1) < X + 1 := Int.emod_lt_of_pos _ (by omega)
      obtain ⟨ox, hox⟩ : ∃ ox, op % (X + 1) = ox := ⟨_, rfl⟩
      have e6 : 0 ≤ ac % (ox + 1) := Int.emod_nonneg _ (by omega)
      have e7 : ac % (ox + 1) < ox + 1 := Int.emod_lt_of_pos _ (by omega)
      obtain ⟨ax, hax⟩ : ∃ ax, ac % (ox + 1) = ax := ⟨_, rfl⟩
      rw [hox] at e4 e5
      rw [hax] at e6 e7
      have s0 : 0 < Pure.sets bm ox := Pure.sets_pos e4 (by omega)
      have M1 : Pure.few bm good ox ax ≤ Pure.sets bm ox := Pure.few_le_all (by omega) (by omega) e4 e6 (by omega)
      have N1 : Pure.few bm bad ox ax ≤ Pure.sets bm ox := Pure.few_le_all (by omega) (by omega) e4 e6 (by omega)
      refine least_good bm lo hi x y sn bn op ac good bad p r X Y ox ax (Pure.sets bm ox) (Pure.few bm good ox ax) (Pure.few bm bad ox ax) _ _ _ _ (Pure.okRule bm good bad p 1000 r 1000 (ox, ax)) (Lib.hid hok) (by simp; omega) b1 b2 l0 (by omega) (by omega) hb x0 x1 y0 y1 sn0 sn1 bn0 bn1 op0 op1 ac0 ac1
        (Lib.hid hgood) (Lib.hid hbad) (Lib.hid hp) (Lib.hid hr) g0 g1 g2 p0 p1 r0 r1 (Lib.hid (by rw [Int.toNat_natCast]; exact hX)) (Lib.hid (by rw [Int.toNat_natCast]; exact hY)) k2 k3 k4 k5 (Lib.hid hxy) (Lib.hid (Pure.all_good (by omega) g1 (by omega) (Int.le_refl 0) (Int.le_refl 0)))
        (Lib.hid hox) (Lib.hid hax) e4 (by omega) e6 (by omega) (Lib.hid rfl) s0 (Pure.sets_le b2) Pure.few_nonneg M1 Pure.few_nonneg N1
        (Lib.hid rfl) (Lib.hid rfl) (Lib.hid rfl) (Lib.hid rfl) (Pure.low_den Pure.few_nonneg s0).1 (Pure.low_den Pure.few_nonneg s0).1 (Lib.hid rfl) (Lib.hid ?_) (Lib.hid ?_) w
      · unfold Pure.okRule Pure.sellerOk Pure.buyerOk
        rw [Int.mul_comm p, Int.mul_comm r]
      · intro h
        obtain ⟨q1, q2⟩ := k6 ox ax e4 (by omega) e6 (by omega) h
        exact ⟨q1, q2⟩

end Go.Proofs.Ytiiecehmldipmaa
