/-
  SampleMore: the walk of the law.
-/
import Derived.Test.YtiiecehmldipmaaAlive
import Derived.Test.YtiiecehmldipmaaAtMostLaw
import Derived.Test.YtiiecehmldipmaaMoreMath
namespace Go.Proofs.Ytiiecehmldipmaa
open Go.RowKit Go.Shelf

theorem atMostV {b lo hi d o f pn pd : Int} (hc : Pure.okCargo b lo hi = true) (d0 : lo ≤ d) (d1 : d ≤ hi) (o0 : 0 ≤ o) (o1 : o ≤ b) (f0 : 0 ≤ f) (f1 : f ≤ o) (h : Hid (partV (Pure.few b d o f) (Pure.sets b o) = .agg #[.int .i64 pn, .int .i64 pd])) (w : World) :
    Calls Try.prog 33 #[cargoV b lo hi, .int .i64 d, .agg #[.int .i64 o, .int .i64 f]] w fun e w' => e = .returned (.tuple #[.agg #[.int .i64 pn, .int .i64 pd], .int .i64 0]) ∧ Below w.heap.size w w' :=
  (atMost_any b lo hi d o f w).mono fun _ _ g => ⟨g.1.trans (by
    have h2 : Pure.okDraw b o f = true := by unfold Pure.okDraw; rw [decide_eq_true_eq]; omega
    have h3 : Pure.okIn lo hi d = true := by unfold Pure.okIn; rw [decide_eq_true_eq]; omega
    rw [Pure.res2_zero (by rw [hc, h2, h3]; rfl), h.out]), g.2⟩
theorem leastV {n d pn pd : Int} (hn : 0 ≤ n) (hn1 : n ≤ 9223372036854775807) (hd : 0 < d) (hd1 : d ≤ 9223372036854775807) (h : Hid (partV n d = .agg #[.int .i64 pn, .int .i64 pd])) (w : World) :
    Calls Try.prog 37 #[.int .i64 n, .int .i64 d] w fun e w' => e = .returned (.agg #[.int .i64 pn, .int .i64 pd]) ∧ Below w.heap.size w w' :=
  (rLeast_any n d hn hn1 hd hd1 w).mono fun _ _ g => ⟨g.1.trans (by rw [h.out]), g.2⟩
theorem atMostYes {a b c d : Int} (h : Hid (Pure.leP a b c d = true)) (a0 : 0 ≤ a) (a1 : a ≤ 9223372036854775807) (b0 : 0 < b) (b1 : b ≤ 9223372036854775807) (c0 : 0 ≤ c) (c1 : c ≤ 9223372036854775807) (d0 : 0 < d) (d1 : d ≤ 9223372036854775807) (w : World) :
    Calls Try.prog 36 #[.agg #[.int .i64 a, .int .i64 b], .agg #[.int .i64 c, .int .i64 d]] w fun e w' => e = .returned (.bool true) ∧ Below w.heap.size w w' :=
  (atMost_law a b c d a0 a1 b0 b1 c0 c1 d0 d1 w).mono fun _ _ g => ⟨g.1.trans (by rw [h.out]), g.2⟩
/-- What Can answers, and Bound, given by their values. -/
theorem canV {b lo hi o f sl sh ec : Int} (h1 : Hid (Pure.pick (Pure.canE b lo hi o f) (Pure.fst b (Pure.nums b.toNat lo hi o f)) = sl)) (h2 : Hid (Pure.pick (Pure.canE b lo hi o f) (Pure.lst (Pure.nums b.toNat lo hi o f)) = sh)) (h3 : Hid (Pure.canE b lo hi o f = ec)) (w : World) :
    Calls Try.prog 24 #[cargoV b lo hi, .agg #[.int .i64 o, .int .i64 f]] w fun e w' => e = .returned (.tuple #[.agg #[.int .i64 sl, .int .i64 sh], .int .i64 ec]) ∧ Below w.heap.size w w' :=
  (can_top b lo hi o f w).mono fun _ _ g => ⟨g.1.trans (by rw [h1.out, h2.out, h3.out]), g.2⟩
theorem boundV {b lo hi o f p q bn bc : Int} (h1 : Hid (Pure.boundV b lo hi o f p q = bn)) (h2 : Hid (Pure.boundE b lo hi o f p q = bc)) (w : World) :
    Calls Try.prog 32 #[cargoV b lo hi, .agg #[.int .i64 o, .int .i64 f], .agg #[.int .i64 p, .int .i64 q]] w fun e w' => e = .returned (.tuple #[.int .i64 bn, .int .i64 bc]) ∧ Below w.heap.size w w' :=
  (bound_top b lo hi o f p q w).mono fun _ _ g => ⟨g.1.trans (by rw [h1.out, h2.out]), g.2⟩

set_option maxHeartbeats 4000000 in
set_option maxRecDepth 100000 in
/-- A cargo that is not valid. -/
theorem more_bad (b lo hi o f x num den : Int) (hc : Hid (Pure.okCargo b lo hi = false)) (w : World) :
    Calls Try.prog 5 #[cargoV b lo hi, .agg #[.int .i64 o, .int .i64 f], .int .u8 x, .int .u16 num, .int .u16 den] w fun e w' => e = .returned (.bool true) ∧ Below w.heap.size w w' := by
  go_enter Try.func5, Try.ntmps5
  go_wp2_with fail
  refine (alive_any _).mono ?_
  rintro e w1 ⟨rfl, hb1⟩
  have hcc := heap_lift (heap_up (heap_top w (.cells #[.int .i64 b, .int .i64 lo, .int .i64 hi] 25) rfl) (.cells #[.int .i64 o, .int .i64 f] 57)) hb1
  have hdd := heap_lift (heap_top (w.alloc (.cells #[.int .i64 b, .int .i64 lo, .int .i64 hi] 25)) (.cells #[.int .i64 o, .int .i64 f] 57) rfl) hb1
  have HC := Lib.hid hcc
  have HD := Lib.hid hdd
  have HB := Lib.hid (below_then (((Below.refl _ _).alloc (Nat.le_refl _) (.cells #[.int .i64 b, .int .i64 lo, .int .i64 hi] 25)).alloc (by simp) (.cells #[.int .i64 o, .int .i64 f] 57)) hb1)
  obtain ⟨Bc, hBc⟩ : ∃ Bc, w.heap.size = Bc := ⟨_, rfl⟩
  have hBd : (w.alloc (.cells #[.int .i64 b, .int .i64 lo, .int .i64 hi] 25)).heap.size = Bc + 1 := by rw [← hBc]; simp
  rw [hBd] at HD
  rw [hBc] at HC
  have c0 := heap_cell HC.out (j := 0) rfl
  have c1 := heap_cell HC.out (j := 1) rfl
  have c2 := heap_cell HC.out (j := 2) rfl
  have g0 := heap_cell HD.out (j := 0) rfl
  have g1 := heap_cell HD.out (j := 1) rfl
  clear hcc hdd hb1 hBd
  go_wp2_with fail
  clear hBc
  refine (rCargo_any b lo hi _).mono ?_
  rw [hc.out]
  rintro e w2 ⟨rfl, rfl⟩
  obtain ⟨w2, hw2⟩ : ∃ w2, w1.alloc (.cells #[.int .i64 b, .int .i64 lo, .int .i64 hi] 25) = w2 := ⟨_, rfl⟩
  replace HC := Lib.hid (heap_up HC.out (.cells #[.int .i64 b, .int .i64 lo, .int .i64 hi] 25))
  replace HD := Lib.hid (heap_up HD.out (.cells #[.int .i64 b, .int .i64 lo, .int .i64 hi] 25))
  replace HB := Lib.hid (HB.out.alloc HB.out.size (.cells #[.int .i64 b, .int .i64 lo, .int .i64 hi] 25))
  rw [hw2] at HC HD HB
  rw [hw2]
  clear c0 c1 c2 g0 g1 hw2
  clear HC HD
  go_wp2_with fail
  go_ret
  exact ⟨rfl, HB.out⟩

set_option maxHeartbeats 4000000 in
set_option maxRecDepth 100000 in
/-- A draw that is not valid. -/
theorem more_off (b lo hi o f x num den : Int) (hc : Hid (Pure.okCargo b lo hi = true)) (hdr : Hid (Pure.okDraw b o f = false)) (w : World) :
    Calls Try.prog 5 #[cargoV b lo hi, .agg #[.int .i64 o, .int .i64 f], .int .u8 x, .int .u16 num, .int .u16 den] w fun e w' => e = .returned (.bool true) ∧ Below w.heap.size w w' := by
  go_enter Try.func5, Try.ntmps5
  go_wp2_with fail
  refine (alive_any _).mono ?_
  rintro e w1 ⟨rfl, hb1⟩
  have hcc := heap_lift (heap_up (heap_top w (.cells #[.int .i64 b, .int .i64 lo, .int .i64 hi] 25) rfl) (.cells #[.int .i64 o, .int .i64 f] 57)) hb1
  have hdd := heap_lift (heap_top (w.alloc (.cells #[.int .i64 b, .int .i64 lo, .int .i64 hi] 25)) (.cells #[.int .i64 o, .int .i64 f] 57) rfl) hb1
  have HC := Lib.hid hcc
  have HD := Lib.hid hdd
  have HB := Lib.hid (below_then (((Below.refl _ _).alloc (Nat.le_refl _) (.cells #[.int .i64 b, .int .i64 lo, .int .i64 hi] 25)).alloc (by simp) (.cells #[.int .i64 o, .int .i64 f] 57)) hb1)
  obtain ⟨Bc, hBc⟩ : ∃ Bc, w.heap.size = Bc := ⟨_, rfl⟩
  have hBd : (w.alloc (.cells #[.int .i64 b, .int .i64 lo, .int .i64 hi] 25)).heap.size = Bc + 1 := by rw [← hBc]; simp
  rw [hBd] at HD
  rw [hBc] at HC
  have c0 := heap_cell HC.out (j := 0) rfl
  have c1 := heap_cell HC.out (j := 1) rfl
  have c2 := heap_cell HC.out (j := 2) rfl
  have g0 := heap_cell HD.out (j := 0) rfl
  have g1 := heap_cell HD.out (j := 1) rfl
  clear hcc hdd hb1 hBd
  go_wp2_with fail
  clear hBc
  refine (rCargo_any b lo hi _).mono ?_
  rw [hc.out]
  rintro e w2 ⟨rfl, rfl⟩
  obtain ⟨w2, hw2⟩ : ∃ w2, w1.alloc (.cells #[.int .i64 b, .int .i64 lo, .int .i64 hi] 25) = w2 := ⟨_, rfl⟩
  replace HC := Lib.hid (heap_up HC.out (.cells #[.int .i64 b, .int .i64 lo, .int .i64 hi] 25))
  replace HD := Lib.hid (heap_up HD.out (.cells #[.int .i64 b, .int .i64 lo, .int .i64 hi] 25))
  replace HB := Lib.hid (HB.out.alloc HB.out.size (.cells #[.int .i64 b, .int .i64 lo, .int .i64 hi] 25))
  rw [hw2] at HC HD HB
  rw [hw2]
  clear c0 c1 c2 g0 g1 hw2
  have c0 := heap_cell HC.out (j := 0) rfl
  have c1 := heap_cell HC.out (j := 1) rfl
  have c2 := heap_cell HC.out (j := 2) rfl
  have g0 := heap_cell HD.out (j := 0) rfl
  have g1 := heap_cell HD.out (j := 1) rfl
  go_wp2_with fail
  refine (rDraw_any b lo hi o f _).mono ?_
  rw [hdr.out]
  rintro e w3 ⟨rfl, rfl⟩
  obtain ⟨w3, hw3⟩ : ∃ w3, (w2.alloc (.cells #[.int .i64 b, .int .i64 lo, .int .i64 hi] 25)).alloc (.cells #[.int .i64 o, .int .i64 f] 57) = w3 := ⟨_, rfl⟩
  have hb3 : Below w2.heap.size w2 w3 := by rw [← hw3]; exact ((Below.refl _ _).alloc (Nat.le_refl _) _).alloc (by simp) _
  replace HC := Lib.hid (heap_lift HC.out hb3)
  replace HD := Lib.hid (heap_lift HD.out hb3)
  replace HB := Lib.hid (HB.out.trans (hb3.mono HB.out.size))
  rw [hw3]
  clear hb3 hw3 c0 c1 c2 g0 g1
  clear HC HD
  go_wp2_with fail
  go_ret
  exact ⟨rfl, HB.out⟩

set_option maxHeartbeats 16000000 in
set_option maxRecDepth 100000 in
theorem more_yes (b lo hi o f x num den d p q sl sh bn bc S T an ad cn cd M : Int) (C : Int → Bool) (ok0 : Bool) (hc : Hid (Pure.okCargo b lo hi = true)) (hdr : Hid (Pure.okDraw b o f = true)) (b2 : b ≤ 36) (l0 : 0 ≤ lo) (l1 : lo ≤ hi) (h36 : hi ≤ 36) (hbb : hi ≤ b) (o0 : 0 ≤ o) (o1 : o ≤ b) (f0 : 0 ≤ f) (f1 : f ≤ o) (x0 : 0 ≤ x) (x1 : x ≤ 255) (num0 : 0 ≤ num) (num1 : num ≤ 65535) (den0 : 0 ≤ den) (den1 : den ≤ 65535)
    (hd : Hid (lo + x % (hi - lo + 1) = d)) (hq : Hid (1 + den % 1000 = q)) (hp : Hid (num % (q + 1) = p)) (d0 : lo ≤ d) (d1 : d ≤ hi) (p0 : 0 ≤ p) (p1 : p ≤ q) (q0 : 1 ≤ q) (q1 : q ≤ 1000) (hS : Hid (Pure.sets b o = S)) (s0 : 0 < S) (s1 : S ≤ 68719476736) (hT : Hid (Pure.sets b (o + 1) = T))
    (hsl : Hid (Pure.pick (Pure.canE b lo hi o f) (Pure.fst b (Pure.nums b.toNat lo hi o f)) = sl)) (hsh : Hid (Pure.pick (Pure.canE b lo hi o f) (Pure.lst (Pure.nums b.toNat lo hi o f)) = sh)) (hec : Hid (Pure.canE b lo hi o f = 0)) (hbn : Hid (Pure.boundV b lo hi o f p q = bn)) (hbc : Hid (Pure.boundE b lo hi o f p q = bc))
    (hok0 : Hid (ok0 = true)) (hC : Hid (∀ n, C n = (ok0 && (decide (sl ≤ n) && decide (n ≤ sh) && decide (S * p ≤ Pure.few b n o f * q))))) (hfin : Hid (∀ (k : Nat) (sv : Int), lo + (k : Int) = hi + 1 → Pure.IsBest C lo k sv → ((sv = -1 ∧ bc = 6 ∧ bn = 0) ∨ (0 ≤ sv ∧ bc = 0 ∧ bn = sv))))
    (M0 : 0 ≤ M) (M1 : M ≤ S) (hm1 : Hid (partV (Pure.few b d o 0) (Pure.sets b o) = .agg #[.int .i64 an, .int .i64 ad])) (hm3 : Hid (partV M S = .agg #[.int .i64 an, .int .i64 ad]))
    (hm2 : Hid (o < b → Hid (partV (Pure.few b d (o + 1) 0) (Pure.sets b (o + 1)) = .agg #[.int .i64 cn, .int .i64 cd]) ∧ ∃ K : Int, 0 ≤ K ∧ K ≤ T ∧ 0 < T ∧ T ≤ 68719476736 ∧ Hid (partV K T = .agg #[.int .i64 cn, .int .i64 cd]) ∧ True ∧ (∀ w : World, Calls Try.prog 36 #[.agg #[.int .i64 cn, .int .i64 cd], .agg #[.int .i64 an, .int .i64 ad]] w fun e w' => e = .returned (.bool true) ∧ Below w.heap.size w w'))) (w : World) :
    Calls Try.prog 5 #[cargoV b lo hi, .agg #[.int .i64 o, .int .i64 f], .int .u8 x, .int .u16 num, .int .u16 den] w fun e w' => e = .returned (.bool true) ∧ Below w.heap.size w w' := by
  go_enter Try.func5, Try.ntmps5
  go_wp2_with fail
  refine (alive_any _).mono ?_
  rintro e w1 ⟨rfl, hb1⟩
  have hcc := heap_lift (heap_up (heap_top w (.cells #[.int .i64 b, .int .i64 lo, .int .i64 hi] 25) rfl) (.cells #[.int .i64 o, .int .i64 f] 57)) hb1
  have hdd := heap_lift (heap_top (w.alloc (.cells #[.int .i64 b, .int .i64 lo, .int .i64 hi] 25)) (.cells #[.int .i64 o, .int .i64 f] 57) rfl) hb1
  have HC := Lib.hid hcc
  have HD := Lib.hid hdd
  have HB := Lib.hid (below_then (((Below.refl _ _).alloc (Nat.le_refl _) (.cells #[.int .i64 b, .int .i64 lo, .int .i64 hi] 25)).alloc (by simp) (.cells #[.int .i64 o, .int .i64 f] 57)) hb1)
  obtain ⟨Bc, hBc⟩ : ∃ Bc, w.heap.size = Bc := ⟨_, rfl⟩
  have hBd : (w.alloc (.cells #[.int .i64 b, .int .i64 lo, .int .i64 hi] 25)).heap.size = Bc + 1 := by rw [← hBc]; simp
  rw [hBd] at HD
  rw [hBc] at HC
  have c0 := heap_cell HC.out (j := 0) rfl
  have c1 := heap_cell HC.out (j := 1) rfl
  have c2 := heap_cell HC.out (j := 2) rfl
  have g0 := heap_cell HD.out (j := 0) rfl
  have g1 := heap_cell HD.out (j := 1) rfl
  clear hcc hdd hb1 hBd
  go_wp2_with fail
  clear hBc
  refine (rCargo_any b lo hi _).mono ?_
  rw [hc.out]
  rintro e w2 ⟨rfl, rfl⟩
  obtain ⟨w2, hw2⟩ : ∃ w2, w1.alloc (.cells #[.int .i64 b, .int .i64 lo, .int .i64 hi] 25) = w2 := ⟨_, rfl⟩
  replace HC := Lib.hid (heap_up HC.out (.cells #[.int .i64 b, .int .i64 lo, .int .i64 hi] 25))
  replace HD := Lib.hid (heap_up HD.out (.cells #[.int .i64 b, .int .i64 lo, .int .i64 hi] 25))
  replace HB := Lib.hid (HB.out.alloc HB.out.size (.cells #[.int .i64 b, .int .i64 lo, .int .i64 hi] 25))
  rw [hw2] at HC HD HB
  rw [hw2]
  clear c0 c1 c2 g0 g1 hw2
  have c0 := heap_cell HC.out (j := 0) rfl
  have c1 := heap_cell HC.out (j := 1) rfl
  have c2 := heap_cell HC.out (j := 2) rfl
  have g0 := heap_cell HD.out (j := 0) rfl
  have g1 := heap_cell HD.out (j := 1) rfl
  go_wp2_with fail
  refine (rDraw_any b lo hi o f _).mono ?_
  rw [hdr.out]
  rintro e w3 ⟨rfl, rfl⟩
  obtain ⟨w3, hw3⟩ : ∃ w3, (w2.alloc (.cells #[.int .i64 b, .int .i64 lo, .int .i64 hi] 25)).alloc (.cells #[.int .i64 o, .int .i64 f] 57) = w3 := ⟨_, rfl⟩
  have hb3 : Below w2.heap.size w2 w3 := by rw [← hw3]; exact ((Below.refl _ _).alloc (Nat.le_refl _) _).alloc (by simp) _
  replace HC := Lib.hid (heap_lift HC.out hb3)
  replace HD := Lib.hid (heap_lift HD.out hb3)
  replace HB := Lib.hid (HB.out.trans (hb3.mono HB.out.size))
  rw [hw3]
  clear hb3 hw3 c0 c1 c2 g0 g1
  have c0 := heap_cell HC.out (j := 0) rfl
  have c1 := heap_cell HC.out (j := 1) rfl
  have c2 := heap_cell HC.out (j := 2) rfl
  have g0 := heap_cell HD.out (j := 0) rfl
  have g1 := heap_cell HD.out (j := 1) rfl
  go_wp2_with fail
  refine (choose_any b o b2 _).mono ?_
  rw [hS.out]
  rintro e w' ⟨rfl, rfl⟩
  clear c0 c1 c2 g0 g1
  go_wp2_with fail
  rw [hq.out]
  refine (newPart_any _ _ _).mono ?_
  rintro e w4 ⟨rfl, hb4⟩
  have hlt : Bc + 1 < w4.heap.size := (Array.getElem?_eq_some_iff.1 (heap_lift HD.out hb4)).1
  replace HC := Lib.hid (heap_up (heap_lift HC.out hb4) (.cells #[.int .i64 0, .int .i64 q] 31))
  replace HD := Lib.hid (heap_up (heap_lift HD.out hb4) (.cells #[.int .i64 0, .int .i64 q] 31))
  have hps : w.heap.size ≤ w4.heap.size := Nat.le_trans HB.out.size hb4.size
  replace HB := Lib.hid ((HB.out.trans (hb4.mono HB.out.size)).alloc (HB.out.trans (hb4.mono HB.out.size)).size (.cells #[.int .i64 0, .int .i64 q] 31))
  have hpp := heap_top w4 (.cells #[.int .i64 0, .int .i64 q] 31) rfl
  obtain ⟨Bp, hBp⟩ : ∃ Bp, w4.heap.size = Bp := ⟨_, rfl⟩
  obtain ⟨w5, hw5⟩ : ∃ w5, w4.alloc (.cells #[.int .i64 0, .int .i64 q] 31) = w5 := ⟨_, rfl⟩
  rw [hBp] at hpp hps hlt
  rw [hw5] at HC HD HB hpp
  have e0 := heap_cell hpp (j := 0) rfl
  have e1 := heap_cell hpp (j := 1) rfl
  have f0' := heap_frozen hpp 0
  have HP := Lib.hid hpp
  have HPS := Lib.hid hps
  have HLT := Lib.hid hlt
  clear hb4 hpp hps hlt
  have q3 : (0 : Int) < q + 1 := by omega
  go_upto_region 7 with fail
  clear hBp hw5
  rw [hp.out]
  replace HC := Lib.hid ((Below.heap_setCell w5 ⟨Bp, 0, none⟩ (.int .i64 p) Bc (by have := HLT.out; simp; omega)).trans HC.out)
  replace HD := Lib.hid ((Below.heap_setCell w5 ⟨Bp, 0, none⟩ (.int .i64 p) (Bc + 1) (by have := HLT.out; simp; omega)).trans HD.out)
  replace HB := Lib.hid (HB.out.setCell (p := ⟨Bp, 0, none⟩) HPS.out (.int .i64 p))
  replace HP := Lib.hid (heap_set HP.out 0 (.int .i64 p))
  obtain ⟨w6, hw6⟩ : ∃ w6, w5.setCell ⟨Bp, 0, none⟩ (.int .i64 p) = w6 := ⟨_, rfl⟩
  rw [hw6] at HC HD HB HP
  rw [hw6]
  clear hw6 e0 e1 f0' q3
  have c0 := heap_cell HC.out (j := 0) rfl
  have c1 := heap_cell HC.out (j := 1) rfl
  have c2 := heap_cell HC.out (j := 2) rfl
  have g0 := heap_cell HD.out (j := 0) rfl
  have g1 := heap_cell HD.out (j := 1) rfl
  go_wp2_with fail
  refine (canV hsl hsh hec _).mono ?_
  rintro e v1 ⟨rfl, hb1⟩
  have hb2 := hb1.alloc hb1.size (.cells #[.int .i64 sl, .int .i64 sh] 23)
  replace HC := Lib.hid (heap_lift HC.out hb2)
  replace HD := Lib.hid (heap_lift HD.out hb2)
  replace HP := Lib.hid (heap_lift HP.out hb2)
  replace HB := Lib.hid (HB.out.trans (hb2.mono HB.out.size))
  have hx := heap_top v1 (.cells #[.int .i64 sl, .int .i64 sh] 23) rfl
  obtain ⟨Bs, hBs⟩ : ∃ Bs, v1.heap.size = Bs := ⟨_, rfl⟩
  obtain ⟨v2, hv2⟩ : ∃ v2, v1.alloc (.cells #[.int .i64 sl, .int .i64 sh] 23) = v2 := ⟨_, rfl⟩
  rw [hBs] at hx
  rw [hv2] at HC HD HP HB hx
  have HX := Lib.hid hx
  clear hb1 hb2 hx c0 c1 c2 g0 g1
  have c0 := heap_cell HC.out (j := 0) rfl
  have c1 := heap_cell HC.out (j := 1) rfl
  have c2 := heap_cell HC.out (j := 2) rfl
  have g0 := heap_cell HD.out (j := 0) rfl
  have g1 := heap_cell HD.out (j := 1) rfl
  have e0 := heap_cell HP.out (j := 0) rfl
  have e1 := heap_cell HP.out (j := 1) rfl
  go_wp2_with fail
  clear hBs hv2
  refine (boundV hbn hbc _).mono ?_
  rintro e v3 ⟨rfl, hb3⟩
  replace HC := Lib.hid (heap_lift HC.out hb3)
  replace HD := Lib.hid (heap_lift HD.out hb3)
  replace HP := Lib.hid (heap_lift HP.out hb3)
  replace HX := Lib.hid (heap_lift HX.out hb3)
  replace HB := Lib.hid (HB.out.trans (hb3.mono HB.out.size))
  clear hb3 c0 c1 c2 g0 g1 e0 e1
  have c0 := heap_cell HC.out (j := 0) rfl
  have c1 := heap_cell HC.out (j := 1) rfl
  have c2 := heap_cell HC.out (j := 2) rfl
  have g0 := heap_cell HD.out (j := 0) rfl
  have g1 := heap_cell HD.out (j := 1) rfl
  go_wp2_with fail
  clear c0 c1 c2 g0 g1
  go_loopw [13, 19, 20] (fun t s i wr => ∃ (k : Nat) (tv sv : Int), lo + k ≤ hi + 1 ∧ i = .int .i64 (lo + k) ∧ t = .int .i64 tv ∧ s = .int .i64 sv ∧ ((k = 0 ∧ tv = -1) ∨ (0 < k ∧ tv = Pure.few b (lo + k - 1) o f)) ∧ Pure.IsBest C lo k sv ∧ Below v3.heap.size v3 wr) (fun _ _ i _ => (hi + 1 - intOf i).toNat)
  case atStart => exact ⟨0, -1, -1, by omega, by simp, rfl, rfl, .inl ⟨rfl, rfl⟩, Pure.isBest_zero _ _, Below.refl _ _⟩
  case round =>
    obtain ⟨k, tv, sv, hk, rfl, rfl, rfl, htv, hbest, hbr⟩ := hrel
    have HTV := Lib.hid htv
    have HBEST := Lib.hid hbest
    have HBR := Lib.hid hbr
    replace HC := Lib.hid (heap_lift HC.out hbr)
    replace HD := Lib.hid (heap_lift HD.out hbr)
    replace HP := Lib.hid (heap_lift HP.out hbr)
    replace HX := Lib.hid (heap_lift HX.out hbr)
    obtain ⟨n, hn⟩ : ∃ n, lo + (k : Int) = n := ⟨_, rfl⟩
    have HN := Lib.hid hn
    have n0 : lo ≤ n := by omega
    have n1 : n ≤ hi + 1 := by omega
    rw [hn]
    clear htv hbest hbr hn hk
    by_cases hk1 : n ≤ hi
    · obtain ⟨m, hm⟩ : ∃ m, Pure.few b n o f = m := ⟨_, rfl⟩
      have m0 : 0 ≤ m := by rw [← hm]; exact Pure.few_nonneg
      have m1 : m ≤ S := by rw [← hm, ← hS.out]; exact Pure.few_le_all (by omega) (by omega) o0 f0 f1
      have tm : 0 ≤ tv → m ≤ tv := by
        intro h
        rcases HTV.out with ⟨_, h2⟩ | ⟨h1, h2⟩
        · omega
        · rw [h2, ← hm, ← HN.out]
          have := Pure.few_mono (b := b) (d := lo + k - 1) (o := o) (f := f) (by omega) (by have := HN.out; omega) o0 f0 f1
          rwa [show lo + (k : Int) - 1 + 1 = lo + k by omega] at this
      have HV : Hid (partV (Pure.few b n o f) (Pure.sets b o) = .agg #[.int .i64 (m / Pure.gcd m S), .int .i64 (S / Pure.gcd m S)]) := Lib.hid (by rw [hm, hS.out])
      have HV2 : Hid (partV m S = .agg #[.int .i64 (m / Pure.gcd m S), .int .i64 (S / Pure.gcd m S)]) := Lib.hid rfl
      obtain ⟨pn, hpn⟩ : ∃ pn, m / Pure.gcd m S = pn := ⟨_, rfl⟩
      obtain ⟨pd, hpd⟩ : ∃ pd, S / Pure.gcd m S = pd := ⟨_, rfl⟩
      rw [hpn, hpd] at HV HV2
      have u0 : 0 ≤ m * q := Int.mul_nonneg m0 (by omega)
      have u1 : m * q ≤ 68719476736000 := Int.le_trans (Int.mul_le_mul (show m ≤ 68719476736 by omega) q1 (by omega) (by decide)) (by decide)
      have v0 : 0 ≤ S * p := Int.mul_nonneg (by omega) (by omega)
      have v1 : S * p ≤ 68719476736000 := Int.le_trans (Int.mul_le_mul s1 (show p ≤ 1000 by omega) (by omega) (by decide)) (by decide)
      have HCN : Hid (C n = (ok0 && (decide (sl ≤ n) && decide (n ≤ sh) && decide (S * p ≤ m * q)))) := Lib.hid (by rw [hC.out, hm])
      have HMF := Lib.hid hm
      have HSUC : Hid (∀ s : Int, (C n = true → s = n) → (C n = false → s = sv) → Pure.IsBest C lo (k + 1) s) := Lib.hid (fun s h1 h2 => by
        cases e : C n with
        | true =>
          rw [h1 e, ← HN.out]
          exact Pure.isBest_yes HBEST.out (by rw [HN.out]; exact e)
        | false =>
          rw [h2 e]
          exact Pure.isBest_no HBEST.out (by rw [HN.out]; exact e))
      have HTS : Hid ((k + 1 = 0 ∧ m = -1) ∨ (0 < k + 1 ∧ m = Pure.few b (lo + (k + 1 : Nat) - 1) o f)) := Lib.hid (.inr ⟨by omega, by rw [← HMF.out, ← HN.out]; congr 1; omega⟩)
      have HNS : Hid (lo + ((k + 1 : Nat) : Int) = n + 1) := Lib.hid (by rw [← HN.out]; omega)
      clear hm hpn hpd
      have c0 := heap_cell HC.out (j := 0) rfl
      have c1 := heap_cell HC.out (j := 1) rfl
      have c2 := heap_cell HC.out (j := 2) rfl
      have g0 := heap_cell HD.out (j := 0) rfl
      have g1 := heap_cell HD.out (j := 1) rfl
      go_wp2_with fail
      refine (atMostV hc.out n0 hk1 o0 o1 f0 f1 HV _).mono ?_
      rintro e y1 ⟨rfl, hb1⟩
      have hb2 := hb1.alloc hb1.size (.cells #[.int .i64 pn, .int .i64 pd] 31)
      replace HC := Lib.hid (heap_lift HC.out hb2)
      replace HD := Lib.hid (heap_lift HD.out hb2)
      replace HP := Lib.hid (heap_lift HP.out hb2)
      replace HX := Lib.hid (heap_lift HX.out hb2)
      replace HBR := Lib.hid (below_then HBR.out hb2)
      have z0 := heap_cell (heap_top y1 (.cells #[.int .i64 pn, .int .i64 pd] 31) rfl) (j := 0) rfl
      have z1 := heap_cell (heap_top y1 (.cells #[.int .i64 pn, .int .i64 pd] 31) rfl) (j := 1) rfl
      clear hb1 hb2 c0 c1 c2 g0 g1
      go_wp2_with fail
      refine (overOk m0 m1 s0 s1 HV2 _).mono ?_
      rintro e y2 ⟨rfl, hb2⟩
      replace HC := Lib.hid (heap_lift HC.out hb2)
      replace HD := Lib.hid (heap_lift HD.out hb2)
      replace HP := Lib.hid (heap_lift HP.out hb2)
      replace HX := Lib.hid (heap_lift HX.out hb2)
      replace HBR := Lib.hid (below_then HBR.out hb2)
      clear hb2 z0 z1
      have c0 := heap_cell HC.out (j := 0) rfl
      have c1 := heap_cell HC.out (j := 1) rfl
      have c2 := heap_cell HC.out (j := 2) rfl
      have e0 := heap_cell HP.out (j := 0) rfl
      have e1 := heap_cell HP.out (j := 1) rfl
      have z0 := heap_cell HX.out (j := 0) rfl
      have z1 := heap_cell HX.out (j := 1) rfl
      by_cases hA : sl ≤ n
      · by_cases hB' : n ≤ sh
        · by_cases hP : S * p ≤ m * q
          · have HF : Hid ((ok0 && (decide (sl ≤ n) && decide (n ≤ sh) && decide (S * p ≤ m * q))) = true) := Lib.hid (by rw [hok0.out]; simp [hA, hB', hP])
            by_cases ht0 : 0 ≤ tv
            · have tm' := tm ht0
              go_wp2_with fail
              go_roundw
              case rel => exact ⟨k + 1, m, n, by rw [HNS.out]; omega, by rw [HNS.out], rfl, rfl, HTS.out, HSUC.out _ (fun h => rfl) (fun h => by rw [HCN.out, HF.out] at h; cases h), HBR.out⟩
              case measure => (simp [intOf] <;> omega)
            · skip
              go_wp2_with fail
              go_roundw
              case rel => exact ⟨k + 1, m, n, by rw [HNS.out]; omega, by rw [HNS.out], rfl, rfl, HTS.out, HSUC.out _ (fun h => rfl) (fun h => by rw [HCN.out, HF.out] at h; cases h), HBR.out⟩
              case measure => (simp [intOf] <;> omega)
          · have HF : Hid ((ok0 && (decide (sl ≤ n) && decide (n ≤ sh) && decide (S * p ≤ m * q))) = false) := Lib.hid (by simp [hP])
            by_cases ht0 : 0 ≤ tv
            · have tm' := tm ht0
              go_wp2_with fail
              go_roundw
              case rel => exact ⟨k + 1, m, sv, by rw [HNS.out]; omega, by rw [HNS.out], rfl, rfl, HTS.out, HSUC.out _ (fun h => by rw [HCN.out, HF.out] at h; cases h) (fun h => rfl), HBR.out⟩
              case measure => (simp [intOf] <;> omega)
            · skip
              go_wp2_with fail
              go_roundw
              case rel => exact ⟨k + 1, m, sv, by rw [HNS.out]; omega, by rw [HNS.out], rfl, rfl, HTS.out, HSUC.out _ (fun h => by rw [HCN.out, HF.out] at h; cases h) (fun h => rfl), HBR.out⟩
              case measure => (simp [intOf] <;> omega)
        · have HF : Hid ((ok0 && (decide (sl ≤ n) && decide (n ≤ sh) && decide (S * p ≤ m * q))) = false) := Lib.hid (by simp [hB'])
          by_cases ht0 : 0 ≤ tv
          · have tm' := tm ht0
            go_wp2_with fail
            go_roundw
            case rel => exact ⟨k + 1, m, sv, by rw [HNS.out]; omega, by rw [HNS.out], rfl, rfl, HTS.out, HSUC.out _ (fun h => by rw [HCN.out, HF.out] at h; cases h) (fun h => rfl), HBR.out⟩
            case measure => (simp [intOf] <;> omega)
          · skip
            go_wp2_with fail
            go_roundw
            case rel => exact ⟨k + 1, m, sv, by rw [HNS.out]; omega, by rw [HNS.out], rfl, rfl, HTS.out, HSUC.out _ (fun h => by rw [HCN.out, HF.out] at h; cases h) (fun h => rfl), HBR.out⟩
            case measure => (simp [intOf] <;> omega)
      · have HF : Hid ((ok0 && (decide (sl ≤ n) && decide (n ≤ sh) && decide (S * p ≤ m * q))) = false) := Lib.hid (by simp [hA])
        by_cases ht0 : 0 ≤ tv
        · have tm' := tm ht0
          go_wp2_with fail
          go_roundw
          case rel => exact ⟨k + 1, m, sv, by rw [HNS.out]; omega, by rw [HNS.out], rfl, rfl, HTS.out, HSUC.out _ (fun h => by rw [HCN.out, HF.out] at h; cases h) (fun h => rfl), HBR.out⟩
          case measure => (simp [intOf] <;> omega)
        · skip
          go_wp2_with fail
          go_roundw
          case rel => exact ⟨k + 1, m, sv, by rw [HNS.out]; omega, by rw [HNS.out], rfl, rfl, HTS.out, HSUC.out _ (fun h => by rw [HCN.out, HF.out] at h; cases h) (fun h => rfl), HBR.out⟩
          case measure => (simp [intOf] <;> omega)
    · obtain rfl : n = hi + 1 := by omega
      have HSV : Hid ((sv = -1 ∧ bc = 6 ∧ bn = 0) ∨ (0 ≤ sv ∧ bc = 0 ∧ bn = sv)) := Lib.hid (hfin.out k sv (by rw [HN.out]) HBEST.out)
      have hsr : sv = -1 ∨ (lo ≤ sv ∧ sv < lo + k) := Pure.isBest_range HBEST.out
      have hsr0 : -1 ≤ sv := by omega
      have hsr1 : sv ≤ 36 := by have := HN.out; omega
      clear hsr
      have c0 := heap_cell HC.out (j := 0) rfl
      have c1 := heap_cell HC.out (j := 1) rfl
      have c2 := heap_cell HC.out (j := 2) rfl
      have g0 := heap_cell HD.out (j := 0) rfl
      have g1 := heap_cell HD.out (j := 1) rfl
      go_upto_region 20 with fail
      go_cut [183] (fun s wx => s = .bool false ∧ Below wr.heap.size wr wx)
      case first =>
        rcases HSV.out with ⟨r1', r2', r3'⟩ | ⟨r1', r2', r3'⟩
        · subst r1' r2' r3'
          go_wp2_with fail
          go_meet
          exact ⟨rfl, Below.refl _ _⟩
        · subst r2' r3'
          go_wp2_with fail
          go_meet
          exact ⟨rfl, Below.refl _ _⟩
      case rest =>
        obtain ⟨r1, rfl⟩ : ∃ x, x = wc := ⟨_, rfl⟩
        obtain ⟨rfl, hbc'⟩ := hcut
        replace HC := Lib.hid (heap_lift HC.out hbc')
        replace HD := Lib.hid (heap_lift HD.out hbc')
        have HB9 := Lib.hid (HB.out.trans ((below_then HBR.out hbc').mono HB.out.size))
        clear hbc' c0 c1 c2 g0 g1 HP HX HBR
        have c0 := heap_cell HC.out (j := 0) rfl
        have c1 := heap_cell HC.out (j := 1) rfl
        have c2 := heap_cell HC.out (j := 2) rfl
        have g0 := heap_cell HD.out (j := 0) rfl
        have g1 := heap_cell HD.out (j := 1) rfl
        by_cases hob : o = b
        · have hob1 : (o == b) = true := by simp [hob]
          clear hob
          go_wp2_with fail
          go_ret
          exact ⟨rfl, HB9.out⟩
        · have hob1 : (o == b) = false := by simp [hob]
          have hob2 : o < b := by omega
          clear hob
          go_wp2_with fail
          refine (some_any b lo hi x l0 l1 h36 x0 x1 hd _).mono ?_
          rintro e r2 ⟨rfl, hb1⟩
          replace HC := Lib.hid (heap_lift HC.out hb1)
          replace HD := Lib.hid (heap_lift HD.out hb1)
          replace HB9 := Lib.hid (below_then HB9.out hb1)
          clear hb1 c0 c1 c2 g0 g1
          go_wp2_with fail
          have HK : Hid (∀ v : World, Below r2.heap.size r2 v → (v.cell? ⟨Bc, 0, none⟩ = some (.int .i64 b) ∧ v.cell? ⟨Bc, 1, none⟩ = some (.int .i64 lo) ∧ v.cell? ⟨Bc, 2, none⟩ = some (.int .i64 hi) ∧ v.cell? ⟨(Bc + 1), 0, none⟩ = some (.int .i64 o) ∧ Below r2.heap.size r2 v)) :=
            Lib.hid (fun v k => ⟨below_cell k (heap_cell HC.out (j := 0) rfl), below_cell k (heap_cell HC.out (j := 1) rfl), below_cell k (heap_cell HC.out (j := 2) rfl), below_cell k (heap_cell HD.out (j := 0) rfl), k⟩)
          go_cut [26, 27] (fun s t wx => BoxAt wx s #[.int .i64 an, .int .i64 ad] 31 r2.heap.size ∧ t = .int .i64 0 ∧ Below r2.heap.size r2 wx)
          case first =>
            as_aux_lemma =>
              go_region_held3 (fun v => v.cell? ⟨Bc, 0, none⟩ = some (.int .i64 b) ∧ v.cell? ⟨Bc, 1, none⟩ = some (.int .i64 lo) ∧ v.cell? ⟨Bc, 2, none⟩ = some (.int .i64 hi) ∧ v.cell? ⟨(Bc + 1), 0, none⟩ = some (.int .i64 o) ∧ Below r2.heap.size r2 v)
                (first | exact HK.out _ (Below.refl _ _).drew | exact HK.out _ ((Below.refl _ _).alloc (Nat.le_refl _) _).drew | exact HK.out _ hqu1 | exact HK.out _ (Below.alloc hqu1 (Below.size hqu1) _) | exact HK.out _ (box_two hqu1 HZ.out _ _).2 | exact HK.out _ hqu0 | exact HK.out _ (Below.alloc hqu0 (Below.size hqu0) _) | exact HK.out _ (box_two hqu0 HZ.out _ _).2)
                (first
                  | (go_at_call 26; refine (drawn_any _ _ _).mono ?_; rintro e u0 ⟨rfl, hbu0⟩; (first | (have hz := HZ.out.up hbu0; have z0 := hz.cell 0 rfl; have z1 := hz.cell 1 rfl; have y0 := hz.free 0; have y1 := hz.free 1; have HZ := Lib.hid hz; clear hz) | (have hz := boxIn_drew hbu0; have z0 := hz.cell 0 rfl; have z1 := hz.cell 1 rfl; have y0 := hz.free 0; have y1 := hz.free 1; have HZ := Lib.hid hz; clear hz) | (have hz := boxIn_new (n := r2.heap.size) hqu1.size hbu0; have z0 := hz.cell 0 rfl; have z1 := hz.cell 1 rfl; have y0 := hz.free 0; have y1 := hz.free 1; have HZ := Lib.hid hz; clear hz) | (have hz := boxIn_new (n := r2.heap.size) hqu0.size hbu0; have z0 := hz.cell 0 rfl; have z1 := hz.cell 1 rfl; have y0 := hz.free 0; have y1 := hz.free 1; have HZ := Lib.hid hz; clear hz) | skip); have hqu0 : Below r2.heap.size r2 u0 := below_then (And.right (And.right (And.right (And.right (by assumption))))) hbu0)
                  | (go_at_call 33; refine (atMostV hc.out d0 d1 o0 o1 (Int.le_refl _) o0 hm1 _).mono ?_; rintro e u1 ⟨rfl, hbu1⟩; (first | (have hz := HZ.out.up hbu1; have z0 := hz.cell 0 rfl; have z1 := hz.cell 1 rfl; have y0 := hz.free 0; have y1 := hz.free 1; have HZ := Lib.hid hz; clear hz) | (have hz := boxIn_drew hbu1; have z0 := hz.cell 0 rfl; have z1 := hz.cell 1 rfl; have y0 := hz.free 0; have y1 := hz.free 1; have HZ := Lib.hid hz; clear hz) | (have hz := boxIn_new (n := r2.heap.size) hqu1.size hbu1; have z0 := hz.cell 0 rfl; have z1 := hz.cell 1 rfl; have y0 := hz.free 0; have y1 := hz.free 1; have HZ := Lib.hid hz; clear hz) | (have hz := boxIn_new (n := r2.heap.size) hqu0.size hbu1; have z0 := hz.cell 0 rfl; have z1 := hz.cell 1 rfl; have y0 := hz.free 0; have y1 := hz.free 1; have HZ := Lib.hid hz; clear hz) | skip); have hqu1 : Below r2.heap.size r2 u1 := below_then (And.right (And.right (And.right (And.right (by assumption))))) hbu1))
              all_goals
                go_wp2_with fail
                go_meet
                first | exact ⟨(box_last hqu1 _ _).1, rfl, (box_last hqu1 _ _).2⟩ | exact ⟨(box_two hqu1 HZ.out _ _).1, rfl, (box_two hqu1 HZ.out _ _).2⟩
          case rest =>
            obtain ⟨r3, rfl⟩ : ∃ x, x = wc := ⟨_, rfl⟩
            obtain ⟨⟨Ba, rfl, hn', hh⟩, rfl, hbc⟩ := hcut
            replace HC := Lib.hid (heap_lift HC.out hbc)
            replace HD := Lib.hid (heap_lift HD.out hbc)
            replace HB9 := Lib.hid (below_then HB9.out hbc)
            have HBa := Lib.hid hh
            clear hbc HK hn' hh
            go_wp2_with fail
            have HK : Hid (∀ v : World, Below r3.heap.size r3 v → (v.cell? ⟨Bc, 0, none⟩ = some (.int .i64 b) ∧ v.cell? ⟨Bc, 1, none⟩ = some (.int .i64 lo) ∧ v.cell? ⟨Bc, 2, none⟩ = some (.int .i64 hi) ∧ v.cell? ⟨(Bc + 1), 0, none⟩ = some (.int .i64 o) ∧ Below r3.heap.size r3 v)) :=
              Lib.hid (fun v k => ⟨below_cell k (heap_cell HC.out (j := 0) rfl), below_cell k (heap_cell HC.out (j := 1) rfl), below_cell k (heap_cell HC.out (j := 2) rfl), below_cell k (heap_cell HD.out (j := 0) rfl), k⟩)
            have t1 : IntKind.i64.wrap (o + 1) = o + 1 := IntWalk.i64_in _ (by omega)
            go_cut [28, 29] (fun s t wx => BoxAt wx s #[.int .i64 cn, .int .i64 cd] 31 r3.heap.size ∧ t = .int .i64 0 ∧ Below r3.heap.size r3 wx)
            case first =>
              as_aux_lemma =>
                go_region_held3 (fun v => v.cell? ⟨Bc, 0, none⟩ = some (.int .i64 b) ∧ v.cell? ⟨Bc, 1, none⟩ = some (.int .i64 lo) ∧ v.cell? ⟨Bc, 2, none⟩ = some (.int .i64 hi) ∧ v.cell? ⟨(Bc + 1), 0, none⟩ = some (.int .i64 o) ∧ Below r3.heap.size r3 v)
                  (first | exact HK.out _ (Below.refl _ _).drew | exact HK.out _ ((Below.refl _ _).alloc (Nat.le_refl _) _).drew | exact HK.out _ hqu1 | exact HK.out _ (Below.alloc hqu1 (Below.size hqu1) _) | exact HK.out _ (box_two hqu1 HZ.out _ _).2 | exact HK.out _ hqu0 | exact HK.out _ (Below.alloc hqu0 (Below.size hqu0) _) | exact HK.out _ (box_two hqu0 HZ.out _ _).2)
                  (first
                    | (go_at_call 26; refine (drawn_any _ _ _).mono ?_; rintro e u0 ⟨rfl, hbu0⟩; (first | (have hz := HZ.out.up hbu0; have z0 := hz.cell 0 rfl; have z1 := hz.cell 1 rfl; have y0 := hz.free 0; have y1 := hz.free 1; have HZ := Lib.hid hz; clear hz) | (have hz := boxIn_drew hbu0; have z0 := hz.cell 0 rfl; have z1 := hz.cell 1 rfl; have y0 := hz.free 0; have y1 := hz.free 1; have HZ := Lib.hid hz; clear hz) | (have hz := boxIn_new (n := r3.heap.size) hqu1.size hbu0; have z0 := hz.cell 0 rfl; have z1 := hz.cell 1 rfl; have y0 := hz.free 0; have y1 := hz.free 1; have HZ := Lib.hid hz; clear hz) | (have hz := boxIn_new (n := r3.heap.size) hqu0.size hbu0; have z0 := hz.cell 0 rfl; have z1 := hz.cell 1 rfl; have y0 := hz.free 0; have y1 := hz.free 1; have HZ := Lib.hid hz; clear hz) | skip); have hqu0 : Below r3.heap.size r3 u0 := below_then (And.right (And.right (And.right (And.right (by assumption))))) hbu0)
                    | (go_at_call 33; refine (atMostV hc.out d0 d1 (by omega) (by omega) (Int.le_refl _) (by omega) (hm2.out hob2).1 _).mono ?_; rintro e u1 ⟨rfl, hbu1⟩; (first | (have hz := HZ.out.up hbu1; have z0 := hz.cell 0 rfl; have z1 := hz.cell 1 rfl; have y0 := hz.free 0; have y1 := hz.free 1; have HZ := Lib.hid hz; clear hz) | (have hz := boxIn_drew hbu1; have z0 := hz.cell 0 rfl; have z1 := hz.cell 1 rfl; have y0 := hz.free 0; have y1 := hz.free 1; have HZ := Lib.hid hz; clear hz) | (have hz := boxIn_new (n := r3.heap.size) hqu1.size hbu1; have z0 := hz.cell 0 rfl; have z1 := hz.cell 1 rfl; have y0 := hz.free 0; have y1 := hz.free 1; have HZ := Lib.hid hz; clear hz) | (have hz := boxIn_new (n := r3.heap.size) hqu0.size hbu1; have z0 := hz.cell 0 rfl; have z1 := hz.cell 1 rfl; have y0 := hz.free 0; have y1 := hz.free 1; have HZ := Lib.hid hz; clear hz) | skip); have hqu1 : Below r3.heap.size r3 u1 := below_then (And.right (And.right (And.right (And.right (by assumption))))) hbu1))
                all_goals
                  go_wp2_with fail
                  go_meet
                  first | exact ⟨(box_last hqu1 _ _).1, rfl, (box_last hqu1 _ _).2⟩ | exact ⟨(box_two hqu1 HZ.out _ _).1, rfl, (box_two hqu1 HZ.out _ _).2⟩
            case rest =>
              obtain ⟨r4, rfl⟩ : ∃ x, x = wc := ⟨_, rfl⟩
              obtain ⟨⟨Be, rfl, hn', hh⟩, rfl, hbc⟩ := hcut
              replace HC := Lib.hid (heap_lift HC.out hbc)
              replace HD := Lib.hid (heap_lift HD.out hbc)
              replace HBa := Lib.hid (heap_lift HBa.out hbc)
              replace HB9 := Lib.hid (below_then HB9.out hbc)
              have HBe := Lib.hid hh
              clear hbc HK hn' hh
              have c0 := heap_cell HC.out (j := 0) rfl
              have g0 := heap_cell HD.out (j := 0) rfl
              have z0 := heap_cell HBa.out (j := 0) rfl
              have z1 := heap_cell HBa.out (j := 1) rfl
              clear t1
              go_wp2_with fail
              refine (overOk M0 M1 s0 s1 hm3 _).mono ?_
              rintro e r5 ⟨rfl, hb1⟩
              replace HC := Lib.hid (heap_lift HC.out hb1)
              replace HD := Lib.hid (heap_lift HD.out hb1)
              replace HBe := Lib.hid (heap_lift HBe.out hb1)
              replace HB9 := Lib.hid (below_then HB9.out hb1)
              clear hb1 c0 g0 z0 z1
              have c0 := heap_cell HC.out (j := 0) rfl
              have g0 := heap_cell HD.out (j := 0) rfl
              go_wp2_with fail
              refine (choose_any b (o + 1) b2 _).mono ?_
              rw [hT.out]
              rintro e w' ⟨rfl, rfl⟩
              have z0 := heap_cell HBe.out (j := 0) rfl
              have z1 := heap_cell HBe.out (j := 1) rfl
              have hm4 := (hm2.out hob2).2
              obtain ⟨K, k1, k2, k3, k4, k5, k6, k7⟩ := hm4
              have HA := Lib.hid k7
              have HK5 := Lib.hid k5
              clear k7
              go_wp2_with fail
              refine (overOk k1 k2 k3 k4 HK5.out _).mono ?_
              rintro e r6 ⟨rfl, hb1⟩
              replace HB9 := Lib.hid (below_then HB9.out hb1)
              clear hb1 c0 g0 z0 z1
              go_wp2_with fail
              refine (leastV k1 (by omega) k3 (by omega) HK5.out _).mono ?_
              rintro e r7 ⟨rfl, hb1⟩
              replace HB9 := Lib.hid (below_then HB9.out hb1)
              clear hb1
              go_wp2_with fail
              refine (leastV M0 (by omega) s0 (by omega) hm3 _).mono ?_
              rintro e r8 ⟨rfl, hb1⟩
              replace HB9 := Lib.hid (below_then HB9.out hb1)
              clear hb1
              go_wp2_with fail
              refine (HA.out _).mono ?_
              rintro e r9 ⟨rfl, hb1⟩
              replace HB9 := Lib.hid (below_then HB9.out hb1)
              clear hb1
              go_wp2_with fail
              go_ret
              exact ⟨rfl, HB9.out⟩

set_option maxHeartbeats 16000000 in
set_option maxRecDepth 100000 in
theorem more_no (b lo hi o f x num den d p q sl sh bn bc S T an ad cn cd M : Int) (C : Int → Bool) (ok0 : Bool) (hc : Hid (Pure.okCargo b lo hi = true)) (hdr : Hid (Pure.okDraw b o f = true)) (b2 : b ≤ 36) (l0 : 0 ≤ lo) (l1 : lo ≤ hi) (h36 : hi ≤ 36) (hbb : hi ≤ b) (o0 : 0 ≤ o) (o1 : o ≤ b) (f0 : 0 ≤ f) (f1 : f ≤ o) (x0 : 0 ≤ x) (x1 : x ≤ 255) (num0 : 0 ≤ num) (num1 : num ≤ 65535) (den0 : 0 ≤ den) (den1 : den ≤ 65535)
    (hd : Hid (lo + x % (hi - lo + 1) = d)) (hq : Hid (1 + den % 1000 = q)) (hp : Hid (num % (q + 1) = p)) (d0 : lo ≤ d) (d1 : d ≤ hi) (p0 : 0 ≤ p) (p1 : p ≤ q) (q0 : 1 ≤ q) (q1 : q ≤ 1000) (hS : Hid (Pure.sets b o = S)) (s0 : 0 < S) (s1 : S ≤ 68719476736) (hT : Hid (Pure.sets b (o + 1) = T))
    (hsl : Hid (Pure.pick (Pure.canE b lo hi o f) (Pure.fst b (Pure.nums b.toNat lo hi o f)) = sl)) (hsh : Hid (Pure.pick (Pure.canE b lo hi o f) (Pure.lst (Pure.nums b.toNat lo hi o f)) = sh)) (hec : Hid (Pure.canE b lo hi o f = 8)) (hbn : Hid (Pure.boundV b lo hi o f p q = bn)) (hbc : Hid (Pure.boundE b lo hi o f p q = bc))
    (hok0 : Hid (ok0 = false)) (hC : Hid (∀ n, C n = (ok0 && (decide (sl ≤ n) && decide (n ≤ sh) && decide (S * p ≤ Pure.few b n o f * q))))) (hfin : Hid (∀ (k : Nat) (sv : Int), lo + (k : Int) = hi + 1 → Pure.IsBest C lo k sv → (sv = -1 ∧ bc = 8 ∧ bn = 0)))
    (M0 : 0 ≤ M) (M1 : M ≤ S) (hm1 : Hid (partV (Pure.few b d o 0) (Pure.sets b o) = .agg #[.int .i64 an, .int .i64 ad])) (hm3 : Hid (partV M S = .agg #[.int .i64 an, .int .i64 ad]))
    (hm2 : Hid (o < b → Hid (partV (Pure.few b d (o + 1) 0) (Pure.sets b (o + 1)) = .agg #[.int .i64 cn, .int .i64 cd]) ∧ ∃ K : Int, 0 ≤ K ∧ K ≤ T ∧ 0 < T ∧ T ≤ 68719476736 ∧ Hid (partV K T = .agg #[.int .i64 cn, .int .i64 cd]) ∧ True ∧ (∀ w : World, Calls Try.prog 36 #[.agg #[.int .i64 cn, .int .i64 cd], .agg #[.int .i64 an, .int .i64 ad]] w fun e w' => e = .returned (.bool true) ∧ Below w.heap.size w w'))) (w : World) :
    Calls Try.prog 5 #[cargoV b lo hi, .agg #[.int .i64 o, .int .i64 f], .int .u8 x, .int .u16 num, .int .u16 den] w fun e w' => e = .returned (.bool true) ∧ Below w.heap.size w w' := by
  go_enter Try.func5, Try.ntmps5
  go_wp2_with fail
  refine (alive_any _).mono ?_
  rintro e w1 ⟨rfl, hb1⟩
  have hcc := heap_lift (heap_up (heap_top w (.cells #[.int .i64 b, .int .i64 lo, .int .i64 hi] 25) rfl) (.cells #[.int .i64 o, .int .i64 f] 57)) hb1
  have hdd := heap_lift (heap_top (w.alloc (.cells #[.int .i64 b, .int .i64 lo, .int .i64 hi] 25)) (.cells #[.int .i64 o, .int .i64 f] 57) rfl) hb1
  have HC := Lib.hid hcc
  have HD := Lib.hid hdd
  have HB := Lib.hid (below_then (((Below.refl _ _).alloc (Nat.le_refl _) (.cells #[.int .i64 b, .int .i64 lo, .int .i64 hi] 25)).alloc (by simp) (.cells #[.int .i64 o, .int .i64 f] 57)) hb1)
  obtain ⟨Bc, hBc⟩ : ∃ Bc, w.heap.size = Bc := ⟨_, rfl⟩
  have hBd : (w.alloc (.cells #[.int .i64 b, .int .i64 lo, .int .i64 hi] 25)).heap.size = Bc + 1 := by rw [← hBc]; simp
  rw [hBd] at HD
  rw [hBc] at HC
  have c0 := heap_cell HC.out (j := 0) rfl
  have c1 := heap_cell HC.out (j := 1) rfl
  have c2 := heap_cell HC.out (j := 2) rfl
  have g0 := heap_cell HD.out (j := 0) rfl
  have g1 := heap_cell HD.out (j := 1) rfl
  clear hcc hdd hb1 hBd
  go_wp2_with fail
  clear hBc
  refine (rCargo_any b lo hi _).mono ?_
  rw [hc.out]
  rintro e w2 ⟨rfl, rfl⟩
  obtain ⟨w2, hw2⟩ : ∃ w2, w1.alloc (.cells #[.int .i64 b, .int .i64 lo, .int .i64 hi] 25) = w2 := ⟨_, rfl⟩
  replace HC := Lib.hid (heap_up HC.out (.cells #[.int .i64 b, .int .i64 lo, .int .i64 hi] 25))
  replace HD := Lib.hid (heap_up HD.out (.cells #[.int .i64 b, .int .i64 lo, .int .i64 hi] 25))
  replace HB := Lib.hid (HB.out.alloc HB.out.size (.cells #[.int .i64 b, .int .i64 lo, .int .i64 hi] 25))
  rw [hw2] at HC HD HB
  rw [hw2]
  clear c0 c1 c2 g0 g1 hw2
  have c0 := heap_cell HC.out (j := 0) rfl
  have c1 := heap_cell HC.out (j := 1) rfl
  have c2 := heap_cell HC.out (j := 2) rfl
  have g0 := heap_cell HD.out (j := 0) rfl
  have g1 := heap_cell HD.out (j := 1) rfl
  go_wp2_with fail
  refine (rDraw_any b lo hi o f _).mono ?_
  rw [hdr.out]
  rintro e w3 ⟨rfl, rfl⟩
  obtain ⟨w3, hw3⟩ : ∃ w3, (w2.alloc (.cells #[.int .i64 b, .int .i64 lo, .int .i64 hi] 25)).alloc (.cells #[.int .i64 o, .int .i64 f] 57) = w3 := ⟨_, rfl⟩
  have hb3 : Below w2.heap.size w2 w3 := by rw [← hw3]; exact ((Below.refl _ _).alloc (Nat.le_refl _) _).alloc (by simp) _
  replace HC := Lib.hid (heap_lift HC.out hb3)
  replace HD := Lib.hid (heap_lift HD.out hb3)
  replace HB := Lib.hid (HB.out.trans (hb3.mono HB.out.size))
  rw [hw3]
  clear hb3 hw3 c0 c1 c2 g0 g1
  have c0 := heap_cell HC.out (j := 0) rfl
  have c1 := heap_cell HC.out (j := 1) rfl
  have c2 := heap_cell HC.out (j := 2) rfl
  have g0 := heap_cell HD.out (j := 0) rfl
  have g1 := heap_cell HD.out (j := 1) rfl
  go_wp2_with fail
  refine (choose_any b o b2 _).mono ?_
  rw [hS.out]
  rintro e w' ⟨rfl, rfl⟩
  clear c0 c1 c2 g0 g1
  go_wp2_with fail
  rw [hq.out]
  refine (newPart_any _ _ _).mono ?_
  rintro e w4 ⟨rfl, hb4⟩
  have hlt : Bc + 1 < w4.heap.size := (Array.getElem?_eq_some_iff.1 (heap_lift HD.out hb4)).1
  replace HC := Lib.hid (heap_up (heap_lift HC.out hb4) (.cells #[.int .i64 0, .int .i64 q] 31))
  replace HD := Lib.hid (heap_up (heap_lift HD.out hb4) (.cells #[.int .i64 0, .int .i64 q] 31))
  have hps : w.heap.size ≤ w4.heap.size := Nat.le_trans HB.out.size hb4.size
  replace HB := Lib.hid ((HB.out.trans (hb4.mono HB.out.size)).alloc (HB.out.trans (hb4.mono HB.out.size)).size (.cells #[.int .i64 0, .int .i64 q] 31))
  have hpp := heap_top w4 (.cells #[.int .i64 0, .int .i64 q] 31) rfl
  obtain ⟨Bp, hBp⟩ : ∃ Bp, w4.heap.size = Bp := ⟨_, rfl⟩
  obtain ⟨w5, hw5⟩ : ∃ w5, w4.alloc (.cells #[.int .i64 0, .int .i64 q] 31) = w5 := ⟨_, rfl⟩
  rw [hBp] at hpp hps hlt
  rw [hw5] at HC HD HB hpp
  have e0 := heap_cell hpp (j := 0) rfl
  have e1 := heap_cell hpp (j := 1) rfl
  have f0' := heap_frozen hpp 0
  have HP := Lib.hid hpp
  have HPS := Lib.hid hps
  have HLT := Lib.hid hlt
  clear hb4 hpp hps hlt
  have q3 : (0 : Int) < q + 1 := by omega
  go_upto_region 7 with fail
  clear hBp hw5
  rw [hp.out]
  replace HC := Lib.hid ((Below.heap_setCell w5 ⟨Bp, 0, none⟩ (.int .i64 p) Bc (by have := HLT.out; simp; omega)).trans HC.out)
  replace HD := Lib.hid ((Below.heap_setCell w5 ⟨Bp, 0, none⟩ (.int .i64 p) (Bc + 1) (by have := HLT.out; simp; omega)).trans HD.out)
  replace HB := Lib.hid (HB.out.setCell (p := ⟨Bp, 0, none⟩) HPS.out (.int .i64 p))
  replace HP := Lib.hid (heap_set HP.out 0 (.int .i64 p))
  obtain ⟨w6, hw6⟩ : ∃ w6, w5.setCell ⟨Bp, 0, none⟩ (.int .i64 p) = w6 := ⟨_, rfl⟩
  rw [hw6] at HC HD HB HP
  rw [hw6]
  clear hw6 e0 e1 f0' q3
  have c0 := heap_cell HC.out (j := 0) rfl
  have c1 := heap_cell HC.out (j := 1) rfl
  have c2 := heap_cell HC.out (j := 2) rfl
  have g0 := heap_cell HD.out (j := 0) rfl
  have g1 := heap_cell HD.out (j := 1) rfl
  go_wp2_with fail
  refine (canV hsl hsh hec _).mono ?_
  rintro e v1 ⟨rfl, hb1⟩
  have hb2 := hb1.alloc hb1.size (.cells #[.int .i64 sl, .int .i64 sh] 23)
  replace HC := Lib.hid (heap_lift HC.out hb2)
  replace HD := Lib.hid (heap_lift HD.out hb2)
  replace HP := Lib.hid (heap_lift HP.out hb2)
  replace HB := Lib.hid (HB.out.trans (hb2.mono HB.out.size))
  have hx := heap_top v1 (.cells #[.int .i64 sl, .int .i64 sh] 23) rfl
  obtain ⟨Bs, hBs⟩ : ∃ Bs, v1.heap.size = Bs := ⟨_, rfl⟩
  obtain ⟨v2, hv2⟩ : ∃ v2, v1.alloc (.cells #[.int .i64 sl, .int .i64 sh] 23) = v2 := ⟨_, rfl⟩
  rw [hBs] at hx
  rw [hv2] at HC HD HP HB hx
  have HX := Lib.hid hx
  clear hb1 hb2 hx c0 c1 c2 g0 g1
  have c0 := heap_cell HC.out (j := 0) rfl
  have c1 := heap_cell HC.out (j := 1) rfl
  have c2 := heap_cell HC.out (j := 2) rfl
  have g0 := heap_cell HD.out (j := 0) rfl
  have g1 := heap_cell HD.out (j := 1) rfl
  have e0 := heap_cell HP.out (j := 0) rfl
  have e1 := heap_cell HP.out (j := 1) rfl
  go_wp2_with fail
  clear hBs hv2
  refine (boundV hbn hbc _).mono ?_
  rintro e v3 ⟨rfl, hb3⟩
  replace HC := Lib.hid (heap_lift HC.out hb3)
  replace HD := Lib.hid (heap_lift HD.out hb3)
  replace HP := Lib.hid (heap_lift HP.out hb3)
  replace HX := Lib.hid (heap_lift HX.out hb3)
  replace HB := Lib.hid (HB.out.trans (hb3.mono HB.out.size))
  clear hb3 c0 c1 c2 g0 g1 e0 e1
  have c0 := heap_cell HC.out (j := 0) rfl
  have c1 := heap_cell HC.out (j := 1) rfl
  have c2 := heap_cell HC.out (j := 2) rfl
  have g0 := heap_cell HD.out (j := 0) rfl
  have g1 := heap_cell HD.out (j := 1) rfl
  go_wp2_with fail
  clear c0 c1 c2 g0 g1
  go_loopw [13, 19, 20] (fun t s i wr => ∃ (k : Nat) (tv sv : Int), lo + k ≤ hi + 1 ∧ i = .int .i64 (lo + k) ∧ t = .int .i64 tv ∧ s = .int .i64 sv ∧ ((k = 0 ∧ tv = -1) ∨ (0 < k ∧ tv = Pure.few b (lo + k - 1) o f)) ∧ Pure.IsBest C lo k sv ∧ Below v3.heap.size v3 wr) (fun _ _ i _ => (hi + 1 - intOf i).toNat)
  case atStart => exact ⟨0, -1, -1, by omega, by simp, rfl, rfl, .inl ⟨rfl, rfl⟩, Pure.isBest_zero _ _, Below.refl _ _⟩
  case round =>
    obtain ⟨k, tv, sv, hk, rfl, rfl, rfl, htv, hbest, hbr⟩ := hrel
    have HTV := Lib.hid htv
    have HBEST := Lib.hid hbest
    have HBR := Lib.hid hbr
    replace HC := Lib.hid (heap_lift HC.out hbr)
    replace HD := Lib.hid (heap_lift HD.out hbr)
    replace HP := Lib.hid (heap_lift HP.out hbr)
    replace HX := Lib.hid (heap_lift HX.out hbr)
    obtain ⟨n, hn⟩ : ∃ n, lo + (k : Int) = n := ⟨_, rfl⟩
    have HN := Lib.hid hn
    have n0 : lo ≤ n := by omega
    have n1 : n ≤ hi + 1 := by omega
    rw [hn]
    clear htv hbest hbr hn hk
    by_cases hk1 : n ≤ hi
    · obtain ⟨m, hm⟩ : ∃ m, Pure.few b n o f = m := ⟨_, rfl⟩
      have m0 : 0 ≤ m := by rw [← hm]; exact Pure.few_nonneg
      have m1 : m ≤ S := by rw [← hm, ← hS.out]; exact Pure.few_le_all (by omega) (by omega) o0 f0 f1
      have tm : 0 ≤ tv → m ≤ tv := by
        intro h
        rcases HTV.out with ⟨_, h2⟩ | ⟨h1, h2⟩
        · omega
        · rw [h2, ← hm, ← HN.out]
          have := Pure.few_mono (b := b) (d := lo + k - 1) (o := o) (f := f) (by omega) (by have := HN.out; omega) o0 f0 f1
          rwa [show lo + (k : Int) - 1 + 1 = lo + k by omega] at this
      have HV : Hid (partV (Pure.few b n o f) (Pure.sets b o) = .agg #[.int .i64 (m / Pure.gcd m S), .int .i64 (S / Pure.gcd m S)]) := Lib.hid (by rw [hm, hS.out])
      have HV2 : Hid (partV m S = .agg #[.int .i64 (m / Pure.gcd m S), .int .i64 (S / Pure.gcd m S)]) := Lib.hid rfl
      obtain ⟨pn, hpn⟩ : ∃ pn, m / Pure.gcd m S = pn := ⟨_, rfl⟩
      obtain ⟨pd, hpd⟩ : ∃ pd, S / Pure.gcd m S = pd := ⟨_, rfl⟩
      rw [hpn, hpd] at HV HV2
      have u0 : 0 ≤ m * q := Int.mul_nonneg m0 (by omega)
      have u1 : m * q ≤ 68719476736000 := Int.le_trans (Int.mul_le_mul (show m ≤ 68719476736 by omega) q1 (by omega) (by decide)) (by decide)
      have v0 : 0 ≤ S * p := Int.mul_nonneg (by omega) (by omega)
      have v1 : S * p ≤ 68719476736000 := Int.le_trans (Int.mul_le_mul s1 (show p ≤ 1000 by omega) (by omega) (by decide)) (by decide)
      have HCN : Hid (C n = (ok0 && (decide (sl ≤ n) && decide (n ≤ sh) && decide (S * p ≤ m * q)))) := Lib.hid (by rw [hC.out, hm])
      have HMF := Lib.hid hm
      have HSUC : Hid (∀ s : Int, (C n = true → s = n) → (C n = false → s = sv) → Pure.IsBest C lo (k + 1) s) := Lib.hid (fun s h1 h2 => by
        cases e : C n with
        | true =>
          rw [h1 e, ← HN.out]
          exact Pure.isBest_yes HBEST.out (by rw [HN.out]; exact e)
        | false =>
          rw [h2 e]
          exact Pure.isBest_no HBEST.out (by rw [HN.out]; exact e))
      have HTS : Hid ((k + 1 = 0 ∧ m = -1) ∨ (0 < k + 1 ∧ m = Pure.few b (lo + (k + 1 : Nat) - 1) o f)) := Lib.hid (.inr ⟨by omega, by rw [← HMF.out, ← HN.out]; congr 1; omega⟩)
      have HNS : Hid (lo + ((k + 1 : Nat) : Int) = n + 1) := Lib.hid (by rw [← HN.out]; omega)
      clear hm hpn hpd
      have c0 := heap_cell HC.out (j := 0) rfl
      have c1 := heap_cell HC.out (j := 1) rfl
      have c2 := heap_cell HC.out (j := 2) rfl
      have g0 := heap_cell HD.out (j := 0) rfl
      have g1 := heap_cell HD.out (j := 1) rfl
      go_wp2_with fail
      refine (atMostV hc.out n0 hk1 o0 o1 f0 f1 HV _).mono ?_
      rintro e y1 ⟨rfl, hb1⟩
      have hb2 := hb1.alloc hb1.size (.cells #[.int .i64 pn, .int .i64 pd] 31)
      replace HC := Lib.hid (heap_lift HC.out hb2)
      replace HD := Lib.hid (heap_lift HD.out hb2)
      replace HP := Lib.hid (heap_lift HP.out hb2)
      replace HX := Lib.hid (heap_lift HX.out hb2)
      replace HBR := Lib.hid (below_then HBR.out hb2)
      have z0 := heap_cell (heap_top y1 (.cells #[.int .i64 pn, .int .i64 pd] 31) rfl) (j := 0) rfl
      have z1 := heap_cell (heap_top y1 (.cells #[.int .i64 pn, .int .i64 pd] 31) rfl) (j := 1) rfl
      clear hb1 hb2 c0 c1 c2 g0 g1
      go_wp2_with fail
      refine (overOk m0 m1 s0 s1 HV2 _).mono ?_
      rintro e y2 ⟨rfl, hb2⟩
      replace HC := Lib.hid (heap_lift HC.out hb2)
      replace HD := Lib.hid (heap_lift HD.out hb2)
      replace HP := Lib.hid (heap_lift HP.out hb2)
      replace HX := Lib.hid (heap_lift HX.out hb2)
      replace HBR := Lib.hid (below_then HBR.out hb2)
      clear hb2 z0 z1
      have c0 := heap_cell HC.out (j := 0) rfl
      have c1 := heap_cell HC.out (j := 1) rfl
      have c2 := heap_cell HC.out (j := 2) rfl
      have e0 := heap_cell HP.out (j := 0) rfl
      have e1 := heap_cell HP.out (j := 1) rfl
      have z0 := heap_cell HX.out (j := 0) rfl
      have z1 := heap_cell HX.out (j := 1) rfl
      have HF : Hid ((ok0 && (decide (sl ≤ n) && decide (n ≤ sh) && decide (S * p ≤ m * q))) = false) := Lib.hid (by rw [hok0.out]; rfl)
      by_cases ht0 : 0 ≤ tv
      · have tm' := tm ht0
        go_wp2_with fail
        go_roundw
        case rel => exact ⟨k + 1, m, sv, by rw [HNS.out]; omega, by rw [HNS.out], rfl, rfl, HTS.out, HSUC.out _ (fun h => by rw [HCN.out, HF.out] at h; cases h) (fun h => rfl), HBR.out⟩
        case measure => (simp [intOf] <;> omega)
      · skip
        go_wp2_with fail
        go_roundw
        case rel => exact ⟨k + 1, m, sv, by rw [HNS.out]; omega, by rw [HNS.out], rfl, rfl, HTS.out, HSUC.out _ (fun h => by rw [HCN.out, HF.out] at h; cases h) (fun h => rfl), HBR.out⟩
        case measure => (simp [intOf] <;> omega)
    · obtain rfl : n = hi + 1 := by omega
      have HSV : Hid (sv = -1 ∧ bc = 8 ∧ bn = 0) := Lib.hid (hfin.out k sv (by rw [HN.out]) HBEST.out)
      have hsr : sv = -1 ∨ (lo ≤ sv ∧ sv < lo + k) := Pure.isBest_range HBEST.out
      have hsr0 : -1 ≤ sv := by omega
      have hsr1 : sv ≤ 36 := by have := HN.out; omega
      clear hsr
      have c0 := heap_cell HC.out (j := 0) rfl
      have c1 := heap_cell HC.out (j := 1) rfl
      have c2 := heap_cell HC.out (j := 2) rfl
      have g0 := heap_cell HD.out (j := 0) rfl
      have g1 := heap_cell HD.out (j := 1) rfl
      go_upto_region 20 with fail
      go_cut [183] (fun s wx => s = .bool false ∧ Below wr.heap.size wr wx)
      case first =>
        obtain ⟨r1', r2', r3'⟩ := HSV.out
        subst r1' r2' r3'
        go_wp2_with fail
        go_meet
        exact ⟨rfl, Below.refl _ _⟩
      case rest =>
        obtain ⟨r1, rfl⟩ : ∃ x, x = wc := ⟨_, rfl⟩
        obtain ⟨rfl, hbc'⟩ := hcut
        replace HC := Lib.hid (heap_lift HC.out hbc')
        replace HD := Lib.hid (heap_lift HD.out hbc')
        have HB9 := Lib.hid (HB.out.trans ((below_then HBR.out hbc').mono HB.out.size))
        clear hbc' c0 c1 c2 g0 g1 HP HX HBR
        have c0 := heap_cell HC.out (j := 0) rfl
        have c1 := heap_cell HC.out (j := 1) rfl
        have c2 := heap_cell HC.out (j := 2) rfl
        have g0 := heap_cell HD.out (j := 0) rfl
        have g1 := heap_cell HD.out (j := 1) rfl
        by_cases hob : o = b
        · have hob1 : (o == b) = true := by simp [hob]
          clear hob
          go_wp2_with fail
          go_ret
          exact ⟨rfl, HB9.out⟩
        · have hob1 : (o == b) = false := by simp [hob]
          have hob2 : o < b := by omega
          clear hob
          go_wp2_with fail
          refine (some_any b lo hi x l0 l1 h36 x0 x1 hd _).mono ?_
          rintro e r2 ⟨rfl, hb1⟩
          replace HC := Lib.hid (heap_lift HC.out hb1)
          replace HD := Lib.hid (heap_lift HD.out hb1)
          replace HB9 := Lib.hid (below_then HB9.out hb1)
          clear hb1 c0 c1 c2 g0 g1
          go_wp2_with fail
          have HK : Hid (∀ v : World, Below r2.heap.size r2 v → (v.cell? ⟨Bc, 0, none⟩ = some (.int .i64 b) ∧ v.cell? ⟨Bc, 1, none⟩ = some (.int .i64 lo) ∧ v.cell? ⟨Bc, 2, none⟩ = some (.int .i64 hi) ∧ v.cell? ⟨(Bc + 1), 0, none⟩ = some (.int .i64 o) ∧ Below r2.heap.size r2 v)) :=
            Lib.hid (fun v k => ⟨below_cell k (heap_cell HC.out (j := 0) rfl), below_cell k (heap_cell HC.out (j := 1) rfl), below_cell k (heap_cell HC.out (j := 2) rfl), below_cell k (heap_cell HD.out (j := 0) rfl), k⟩)
          go_cut [26, 27] (fun s t wx => BoxAt wx s #[.int .i64 an, .int .i64 ad] 31 r2.heap.size ∧ t = .int .i64 0 ∧ Below r2.heap.size r2 wx)
          case first =>
            as_aux_lemma =>
              go_region_held3 (fun v => v.cell? ⟨Bc, 0, none⟩ = some (.int .i64 b) ∧ v.cell? ⟨Bc, 1, none⟩ = some (.int .i64 lo) ∧ v.cell? ⟨Bc, 2, none⟩ = some (.int .i64 hi) ∧ v.cell? ⟨(Bc + 1), 0, none⟩ = some (.int .i64 o) ∧ Below r2.heap.size r2 v)
                (first | exact HK.out _ (Below.refl _ _).drew | exact HK.out _ ((Below.refl _ _).alloc (Nat.le_refl _) _).drew | exact HK.out _ hqu1 | exact HK.out _ (Below.alloc hqu1 (Below.size hqu1) _) | exact HK.out _ (box_two hqu1 HZ.out _ _).2 | exact HK.out _ hqu0 | exact HK.out _ (Below.alloc hqu0 (Below.size hqu0) _) | exact HK.out _ (box_two hqu0 HZ.out _ _).2)
                (first
                  | (go_at_call 26; refine (drawn_any _ _ _).mono ?_; rintro e u0 ⟨rfl, hbu0⟩; (first | (have hz := HZ.out.up hbu0; have z0 := hz.cell 0 rfl; have z1 := hz.cell 1 rfl; have y0 := hz.free 0; have y1 := hz.free 1; have HZ := Lib.hid hz; clear hz) | (have hz := boxIn_drew hbu0; have z0 := hz.cell 0 rfl; have z1 := hz.cell 1 rfl; have y0 := hz.free 0; have y1 := hz.free 1; have HZ := Lib.hid hz; clear hz) | (have hz := boxIn_new (n := r2.heap.size) hqu1.size hbu0; have z0 := hz.cell 0 rfl; have z1 := hz.cell 1 rfl; have y0 := hz.free 0; have y1 := hz.free 1; have HZ := Lib.hid hz; clear hz) | (have hz := boxIn_new (n := r2.heap.size) hqu0.size hbu0; have z0 := hz.cell 0 rfl; have z1 := hz.cell 1 rfl; have y0 := hz.free 0; have y1 := hz.free 1; have HZ := Lib.hid hz; clear hz) | skip); have hqu0 : Below r2.heap.size r2 u0 := below_then (And.right (And.right (And.right (And.right (by assumption))))) hbu0)
                  | (go_at_call 33; refine (atMostV hc.out d0 d1 o0 o1 (Int.le_refl _) o0 hm1 _).mono ?_; rintro e u1 ⟨rfl, hbu1⟩; (first | (have hz := HZ.out.up hbu1; have z0 := hz.cell 0 rfl; have z1 := hz.cell 1 rfl; have y0 := hz.free 0; have y1 := hz.free 1; have HZ := Lib.hid hz; clear hz) | (have hz := boxIn_drew hbu1; have z0 := hz.cell 0 rfl; have z1 := hz.cell 1 rfl; have y0 := hz.free 0; have y1 := hz.free 1; have HZ := Lib.hid hz; clear hz) | (have hz := boxIn_new (n := r2.heap.size) hqu1.size hbu1; have z0 := hz.cell 0 rfl; have z1 := hz.cell 1 rfl; have y0 := hz.free 0; have y1 := hz.free 1; have HZ := Lib.hid hz; clear hz) | (have hz := boxIn_new (n := r2.heap.size) hqu0.size hbu1; have z0 := hz.cell 0 rfl; have z1 := hz.cell 1 rfl; have y0 := hz.free 0; have y1 := hz.free 1; have HZ := Lib.hid hz; clear hz) | skip); have hqu1 : Below r2.heap.size r2 u1 := below_then (And.right (And.right (And.right (And.right (by assumption))))) hbu1))
              all_goals
                go_wp2_with fail
                go_meet
                first | exact ⟨(box_last hqu1 _ _).1, rfl, (box_last hqu1 _ _).2⟩ | exact ⟨(box_two hqu1 HZ.out _ _).1, rfl, (box_two hqu1 HZ.out _ _).2⟩
          case rest =>
            obtain ⟨r3, rfl⟩ : ∃ x, x = wc := ⟨_, rfl⟩
            obtain ⟨⟨Ba, rfl, hn', hh⟩, rfl, hbc⟩ := hcut
            replace HC := Lib.hid (heap_lift HC.out hbc)
            replace HD := Lib.hid (heap_lift HD.out hbc)
            replace HB9 := Lib.hid (below_then HB9.out hbc)
            have HBa := Lib.hid hh
            clear hbc HK hn' hh
            go_wp2_with fail
            have HK : Hid (∀ v : World, Below r3.heap.size r3 v → (v.cell? ⟨Bc, 0, none⟩ = some (.int .i64 b) ∧ v.cell? ⟨Bc, 1, none⟩ = some (.int .i64 lo) ∧ v.cell? ⟨Bc, 2, none⟩ = some (.int .i64 hi) ∧ v.cell? ⟨(Bc + 1), 0, none⟩ = some (.int .i64 o) ∧ Below r3.heap.size r3 v)) :=
              Lib.hid (fun v k => ⟨below_cell k (heap_cell HC.out (j := 0) rfl), below_cell k (heap_cell HC.out (j := 1) rfl), below_cell k (heap_cell HC.out (j := 2) rfl), below_cell k (heap_cell HD.out (j := 0) rfl), k⟩)
            have t1 : IntKind.i64.wrap (o + 1) = o + 1 := IntWalk.i64_in _ (by omega)
            go_cut [28, 29] (fun s t wx => BoxAt wx s #[.int .i64 cn, .int .i64 cd] 31 r3.heap.size ∧ t = .int .i64 0 ∧ Below r3.heap.size r3 wx)
            case first =>
              as_aux_lemma =>
                go_region_held3 (fun v => v.cell? ⟨Bc, 0, none⟩ = some (.int .i64 b) ∧ v.cell? ⟨Bc, 1, none⟩ = some (.int .i64 lo) ∧ v.cell? ⟨Bc, 2, none⟩ = some (.int .i64 hi) ∧ v.cell? ⟨(Bc + 1), 0, none⟩ = some (.int .i64 o) ∧ Below r3.heap.size r3 v)
                  (first | exact HK.out _ (Below.refl _ _).drew | exact HK.out _ ((Below.refl _ _).alloc (Nat.le_refl _) _).drew | exact HK.out _ hqu1 | exact HK.out _ (Below.alloc hqu1 (Below.size hqu1) _) | exact HK.out _ (box_two hqu1 HZ.out _ _).2 | exact HK.out _ hqu0 | exact HK.out _ (Below.alloc hqu0 (Below.size hqu0) _) | exact HK.out _ (box_two hqu0 HZ.out _ _).2)
                  (first
                    | (go_at_call 26; refine (drawn_any _ _ _).mono ?_; rintro e u0 ⟨rfl, hbu0⟩; (first | (have hz := HZ.out.up hbu0; have z0 := hz.cell 0 rfl; have z1 := hz.cell 1 rfl; have y0 := hz.free 0; have y1 := hz.free 1; have HZ := Lib.hid hz; clear hz) | (have hz := boxIn_drew hbu0; have z0 := hz.cell 0 rfl; have z1 := hz.cell 1 rfl; have y0 := hz.free 0; have y1 := hz.free 1; have HZ := Lib.hid hz; clear hz) | (have hz := boxIn_new (n := r3.heap.size) hqu1.size hbu0; have z0 := hz.cell 0 rfl; have z1 := hz.cell 1 rfl; have y0 := hz.free 0; have y1 := hz.free 1; have HZ := Lib.hid hz; clear hz) | (have hz := boxIn_new (n := r3.heap.size) hqu0.size hbu0; have z0 := hz.cell 0 rfl; have z1 := hz.cell 1 rfl; have y0 := hz.free 0; have y1 := hz.free 1; have HZ := Lib.hid hz; clear hz) | skip); have hqu0 : Below r3.heap.size r3 u0 := below_then (And.right (And.right (And.right (And.right (by assumption))))) hbu0)
                    | (go_at_call 33; refine (atMostV hc.out d0 d1 (by omega) (by omega) (Int.le_refl _) (by omega) (hm2.out hob2).1 _).mono ?_; rintro e u1 ⟨rfl, hbu1⟩; (first | (have hz := HZ.out.up hbu1; have z0 := hz.cell 0 rfl; have z1 := hz.cell 1 rfl; have y0 := hz.free 0; have y1 := hz.free 1; have HZ := Lib.hid hz; clear hz) | (have hz := boxIn_drew hbu1; have z0 := hz.cell 0 rfl; have z1 := hz.cell 1 rfl; have y0 := hz.free 0; have y1 := hz.free 1; have HZ := Lib.hid hz; clear hz) | (have hz := boxIn_new (n := r3.heap.size) hqu1.size hbu1; have z0 := hz.cell 0 rfl; have z1 := hz.cell 1 rfl; have y0 := hz.free 0; have y1 := hz.free 1; have HZ := Lib.hid hz; clear hz) | (have hz := boxIn_new (n := r3.heap.size) hqu0.size hbu1; have z0 := hz.cell 0 rfl; have z1 := hz.cell 1 rfl; have y0 := hz.free 0; have y1 := hz.free 1; have HZ := Lib.hid hz; clear hz) | skip); have hqu1 : Below r3.heap.size r3 u1 := below_then (And.right (And.right (And.right (And.right (by assumption))))) hbu1))
                all_goals
                  go_wp2_with fail
                  go_meet
                  first | exact ⟨(box_last hqu1 _ _).1, rfl, (box_last hqu1 _ _).2⟩ | exact ⟨(box_two hqu1 HZ.out _ _).1, rfl, (box_two hqu1 HZ.out _ _).2⟩
            case rest =>
              obtain ⟨r4, rfl⟩ : ∃ x, x = wc := ⟨_, rfl⟩
              obtain ⟨⟨Be, rfl, hn', hh⟩, rfl, hbc⟩ := hcut
              replace HC := Lib.hid (heap_lift HC.out hbc)
              replace HD := Lib.hid (heap_lift HD.out hbc)
              replace HBa := Lib.hid (heap_lift HBa.out hbc)
              replace HB9 := Lib.hid (below_then HB9.out hbc)
              have HBe := Lib.hid hh
              clear hbc HK hn' hh
              have c0 := heap_cell HC.out (j := 0) rfl
              have g0 := heap_cell HD.out (j := 0) rfl
              have z0 := heap_cell HBa.out (j := 0) rfl
              have z1 := heap_cell HBa.out (j := 1) rfl
              clear t1
              go_wp2_with fail
              refine (overOk M0 M1 s0 s1 hm3 _).mono ?_
              rintro e r5 ⟨rfl, hb1⟩
              replace HC := Lib.hid (heap_lift HC.out hb1)
              replace HD := Lib.hid (heap_lift HD.out hb1)
              replace HBe := Lib.hid (heap_lift HBe.out hb1)
              replace HB9 := Lib.hid (below_then HB9.out hb1)
              clear hb1 c0 g0 z0 z1
              have c0 := heap_cell HC.out (j := 0) rfl
              have g0 := heap_cell HD.out (j := 0) rfl
              go_wp2_with fail
              refine (choose_any b (o + 1) b2 _).mono ?_
              rw [hT.out]
              rintro e w' ⟨rfl, rfl⟩
              have z0 := heap_cell HBe.out (j := 0) rfl
              have z1 := heap_cell HBe.out (j := 1) rfl
              have hm4 := (hm2.out hob2).2
              obtain ⟨K, k1, k2, k3, k4, k5, k6, k7⟩ := hm4
              have HA := Lib.hid k7
              have HK5 := Lib.hid k5
              clear k7
              go_wp2_with fail
              refine (overOk k1 k2 k3 k4 HK5.out _).mono ?_
              rintro e r6 ⟨rfl, hb1⟩
              replace HB9 := Lib.hid (below_then HB9.out hb1)
              clear hb1 c0 g0 z0 z1
              go_wp2_with fail
              refine (leastV k1 (by omega) k3 (by omega) HK5.out _).mono ?_
              rintro e r7 ⟨rfl, hb1⟩
              replace HB9 := Lib.hid (below_then HB9.out hb1)
              clear hb1
              go_wp2_with fail
              refine (leastV M0 (by omega) s0 (by omega) hm3 _).mono ?_
              rintro e r8 ⟨rfl, hb1⟩
              replace HB9 := Lib.hid (below_then HB9.out hb1)
              clear hb1
              go_wp2_with fail
              refine (HA.out _).mono ?_
              rintro e r9 ⟨rfl, hb1⟩
              replace HB9 := Lib.hid (below_then HB9.out hb1)
              clear hb1
              go_wp2_with fail
              go_ret
              exact ⟨rfl, HB9.out⟩

end Go.Proofs.Ytiiecehmldipmaa
