/-
  SampleRules returns true for every input: the chance that a rule accepts, all its chances, whether it is good, the rule that opens the fewest bags, and what a double rule does, or the errors, are the specification's; each argument reads afterwards as it read before. There is no condition.
-/
import Derived.Test.YtmhhfopiaimhbaaCurve
import Derived.Test.YtmhhfopiaimhbaaRTwice
import Derived.Test.YtmhhfopiaimhbaaRSmall
import Derived.Test.YtmhhfopiaimhbaaGood
import Derived.Test.YtmhhfopiaimhbaaOpen

namespace Go.Proofs.Ytmhhfopiaimhbaa
open Go.RowKit Go.Shelf

/-- What two functions answer alike. -/
abbrev AlikeV (f g : Nat) (args : Array Value) (v : Value) : Prop :=
  (∀ u, Calls Try.prog f args u fun e u' => e = .returned v ∧ Below u.heap.size u u') ∧
  (∀ u, Calls Try.prog g args u fun e u' => e = .returned v ∧ Below u.heap.size u u')
theorem res2_form (k n d : Int) : ∃ x y z : Int, Pure.res2 k (partV n d) = .tuple #[.agg #[.int .i64 x, .int .i64 y], .int .i64 z] := by
  unfold Pure.res2
  split
  · exact ⟨_, _, _, rfl⟩
  · exact ⟨_, _, _, rfl⟩
theorem twiceV_form (b lo hi x1 a r x2 t d : Int) : ∃ x y z u k : Int, Pure.twiceV b lo hi x1 a r x2 t d = .tuple #[.agg #[.int .i64 x, .int .i64 y], .agg #[.int .i64 z, .int .i64 u], .int .i64 k] := by
  unfold Pure.twiceV
  split
  · exact ⟨_, _, _, _, _, rfl⟩
  · exact ⟨_, _, _, _, _, rfl⟩
theorem alike_accepts (b lo hi x y d : Int) : ∃ s t k : Int, AlikeV 4 5 #[cargoV b lo hi, .agg #[.int .i64 x, .int .i64 y], .int .i64 d] (.tuple #[.agg #[.int .i64 s, .int .i64 t], .int .i64 k]) := by
  obtain ⟨s, t, k, h⟩ := res2_form (Pure.first3 (Pure.err (Pure.okCargo b lo hi) 10) (Pure.err (Pure.okDraw b x y) 13) (Pure.err (Pure.okIn lo hi d) 2)) (Pure.few b d x y) (Pure.sets b x)
  refine ⟨s, t, k, fun u => ?_, fun u => ?_⟩ <;> rw [← h]
  · exact accepts_top b lo hi d x y u
  · exact rAccepts_any b lo hi x y d u
theorem alike_good (b lo hi x y good bad p q r s : Int) : ∃ (is : Bool) (k : Int), AlikeV 9 10 #[cargoV b lo hi, .agg #[.int .i64 x, .int .i64 y], .int .i64 good, .int .i64 bad, .agg #[.int .i64 p, .int .i64 q], .agg #[.int .i64 r, .int .i64 s]] (.tuple #[.bool is, .int .i64 k]) :=
  ⟨_, _, fun u => good_top b lo hi x y good bad p q r s u, fun u => rGood_any b lo hi x y good bad p q r s u⟩
theorem alike_least (b lo hi good bad p q r s : Int) : ∃ x y k : Int, AlikeV 11 12 #[cargoV b lo hi, .int .i64 good, .int .i64 bad, .agg #[.int .i64 p, .int .i64 q], .agg #[.int .i64 r, .int .i64 s]] (.tuple #[.agg #[.int .i64 x, .int .i64 y], .int .i64 k]) :=
  ⟨_, _, _, fun u => least_top b lo hi good bad p q r s u, fun u => rSmallest_any b lo hi good bad p q r s u⟩
theorem alike_twice (b lo hi x1 a r x2 t d : Int) : ∃ x y z u k : Int, AlikeV 13 14 #[cargoV b lo hi, doubleV x1 a r x2 t, .int .i64 d] (.tuple #[.agg #[.int .i64 x, .int .i64 y], .agg #[.int .i64 z, .int .i64 u], .int .i64 k]) := by
  obtain ⟨x, y, z, u, k, h⟩ := twiceV_form b lo hi x1 a r x2 t d
  refine ⟨x, y, z, u, k, fun v => ?_, fun v => ?_⟩ <;> rw [← h]
  · exact twice_top b lo hi x1 a r x2 t d v
  · exact rTwice_any b lo hi x1 a r x2 t d v
/-- What Curve answers, and its specification. -/
theorem alike_curve (b lo hi x y : Int) : ∃ (len : Nat) (k : Int) (N D : Nat → Int), len ≤ 37 ∧
    (∀ u, Calls Try.prog 6 #[cargoV b lo hi, .agg #[.int .i64 x, .int .i64 y]] u fun e u' => ∃ a cap, e = .returned (.tuple #[.slice a len cap, .int .i64 k]) ∧ TermsAt u' a len N D ∧ Below u.heap.size u u') ∧
    (∀ u, Calls Try.prog 7 #[cargoV b lo hi, .agg #[.int .i64 x, .int .i64 y]] u fun e u' => ∃ a cap, e = .returned (.tuple #[.slice a len cap, .int .i64 k]) ∧ TermsAt u' a len N D ∧ Below u.heap.size u u') := by
  refine ⟨if Pure.curveE b lo hi x y = 0 then (hi - lo + 1).toNat else 0, Pure.curveE b lo hi x y, Pure.curveN b lo x y, Pure.curveD b lo x y, ?_, fun u => ?_, fun u => ?_⟩
  · split
    · rename_i h
      unfold Pure.curveE at h
      have h1 : Pure.okCargo b lo hi = true := by
        cases e : Pure.okCargo b lo hi with
        | true => rfl
        | false => rw [e] at h; exact absurd h (by simp)
      unfold Pure.okCargo at h1
      simp only [decide_eq_true_eq] at h1
      omega
    · omega
  · exact (curve_top b lo hi x y u).mono fun e u' h => by
      obtain ⟨a, n, cap, h1, h2, h3, h4⟩ := h
      subst h2
      exact ⟨a, cap, h1, h3, h4⟩
  · exact (rCurve_any b lo hi x y u).mono fun e u' h => by
      obtain ⟨a, n, cap, h1, h2, h3, h4⟩ := h
      subst h2
      exact ⟨a, cap, h1, h3, h4⟩

set_option maxHeartbeats 4000000 in
set_option maxRecDepth 100000 in
theorem rules_walk (b lo hi x y x1 a r x2 t good bad p q m n : Int) (w : World) :
    Calls Try.prog 3 #[cargoV b lo hi, .agg #[.int .i64 x, .int .i64 y], doubleV x1 a r x2 t, .int .i64 good, .int .i64 bad, .agg #[.int .i64 p, .int .i64 q], .agg #[.int .i64 m, .int .i64 n]] w fun e w' => e = .returned (.bool true) ∧ Below w.heap.size w w' := by
  obtain ⟨a1, a2, ka, ha1, ha2⟩ := alike_accepts b lo hi x y good
  obtain ⟨len, kc, N, D, hlen, hc1, hc2⟩ := alike_curve b lo hi x y
  obtain ⟨is, kg, hg1, hg2⟩ := alike_good b lo hi x y good bad p q m n
  obtain ⟨l1, l2, kl, hl1, hl2⟩ := alike_least b lo hi good bad p q m n
  obtain ⟨t1, t2, t3, t4, kt, ht1, ht2⟩ := alike_twice b lo hi x1 a r x2 t good
  have HA1 := Lib.hid ha1
  have HA2 := Lib.hid ha2
  have HC1 := Lib.hid hc1
  have HC2 := Lib.hid hc2
  have HG1 := Lib.hid hg1
  have HG2 := Lib.hid hg2
  have HL1 := Lib.hid hl1
  have HL2 := Lib.hid hl2
  have HT1 := Lib.hid ht1
  have HT2 := Lib.hid ht2
  clear ha1 ha2 hc1 hc2 hg1 hg2 hl1 hl2 ht1 ht2
  go_enter Try.func3, Try.ntmps3
  go_wp2_with fail
  obtain ⟨W0, hW⟩ : ∃ W1, (((((w.alloc (.cells #[.int .i64 b, .int .i64 lo, .int .i64 hi] 25)).alloc (.cells #[.int .i64 x, .int .i64 y] 27)).alloc (.cells #[.int .i64 x1, .int .i64 a, .int .i64 r, .int .i64 x2, .int .i64 t] 29)).alloc (.cells #[.int .i64 p, .int .i64 q] 31)).alloc (.cells #[.int .i64 m, .int .i64 n] 31)) = W1 := ⟨_, rfl⟩
  have HT0 : Hid (Below w.heap.size w W0) := Lib.hid (by rw [← hW]; exact (((((Below.refl _ _).alloc (Nat.le_refl _) _).alloc (by simp) _).alloc (by simp; omega) _).alloc (by simp; omega) _).alloc (by simp; omega) _)
  have hc : W0.heap[w.heap.size]? = some (.cells #[.int .i64 b, .int .i64 lo, .int .i64 hi] 25) := by rw [← hW]; exact heap_up (heap_up (heap_up (heap_up (heap_top _ _ rfl) _) _) _) _
  have hr : W0.heap[w.heap.size + 1]? = some (.cells #[.int .i64 x, .int .i64 y] 27) := by rw [← hW]; exact heap_up (heap_up (heap_up (heap_top _ _ (by simp)) _) _) _
  have hd : W0.heap[w.heap.size + 1 + 1]? = some (.cells #[.int .i64 x1, .int .i64 a, .int .i64 r, .int .i64 x2, .int .i64 t] 29) := by rw [← hW]; exact heap_up (heap_up (heap_top _ _ (by simp)) _) _
  have hs : W0.heap[w.heap.size + 1 + 1 + 1]? = some (.cells #[.int .i64 p, .int .i64 q] 31) := by rw [← hW]; exact heap_up (heap_top _ _ (by simp)) _
  have hb : W0.heap[w.heap.size + 1 + 1 + 1 + 1]? = some (.cells #[.int .i64 m, .int .i64 n] 31) := by rw [← hW]; exact heap_top _ _ (by simp)
  have hc0 := heap_cell hc (j := 0) rfl
  have hc1 := heap_cell hc (j := 1) rfl
  have hc2 := heap_cell hc (j := 2) rfl
  have hr0 := heap_cell hr (j := 0) rfl
  have hr1 := heap_cell hr (j := 1) rfl
  have hd0 := heap_cell hd (j := 0) rfl
  have hd1 := heap_cell hd (j := 1) rfl
  have hd2 := heap_cell hd (j := 2) rfl
  have hd3 := heap_cell hd (j := 3) rfl
  have hd4 := heap_cell hd (j := 4) rfl
  have hs0 := heap_cell hs (j := 0) rfl
  have hs1 := heap_cell hs (j := 1) rfl
  have hb0 := heap_cell hb (j := 0) rfl
  have hb1 := heap_cell hb (j := 1) rfl
  rw [hW]
  clear hW hc hr hd hs hb
  refine (HA1.out _).mono ?_
  rintro e v1 ⟨rfl, hb⟩
  have hb2 := hb.alloc hb.size (.cells #[.int .i64 a1, .int .i64 a2] 31)
  replace hc0 := below_cell hb2 hc0
  replace hc1 := below_cell hb2 hc1
  replace hc2 := below_cell hb2 hc2
  replace hr0 := below_cell hb2 hr0
  replace hr1 := below_cell hb2 hr1
  replace hd0 := below_cell hb2 hd0
  replace hd1 := below_cell hb2 hd1
  replace hd2 := below_cell hb2 hd2
  replace hd3 := below_cell hb2 hd3
  replace hd4 := below_cell hb2 hd4
  replace hs0 := below_cell hb2 hs0
  replace hs1 := below_cell hb2 hs1
  replace hb0 := below_cell hb2 hb0
  replace hb1 := below_cell hb2 hb1
  have hq0 : (v1.alloc (.cells #[.int .i64 a1, .int .i64 a2] 31)).heap[v1.heap.size]? = some (.cells #[.int .i64 a1, .int .i64 a2] 31) := heap_top _ _ rfl
  have s100 := heap_cell hq0 (j := 0) rfl
  have s101 := heap_cell hq0 (j := 1) rfl
  have HB1 := Lib.hid (HT0.out.trans (hb2.mono HT0.out.size))
  obtain ⟨W1, hW⟩ : ∃ W, (v1.alloc (.cells #[.int .i64 a1, .int .i64 a2] 31)) = W := ⟨_, rfl⟩
  rw [hW] at hc0 hc1 hc2 hr0 hr1 hd0 hd1 hd2 hd3 hd4 hs0 hs1 hb0 hb1 s100 s101 HB1
  clear hq0 hb hb2
  go_wp2_with fail
  clear hW
  refine (HA2.out _).mono ?_
  rintro e v2 ⟨rfl, hb⟩
  have hb2 := hb.alloc hb.size (.cells #[.int .i64 a1, .int .i64 a2] 31)
  replace hc0 := below_cell hb2 hc0
  replace hc1 := below_cell hb2 hc1
  replace hc2 := below_cell hb2 hc2
  replace hr0 := below_cell hb2 hr0
  replace hr1 := below_cell hb2 hr1
  replace hd0 := below_cell hb2 hd0
  replace hd1 := below_cell hb2 hd1
  replace hd2 := below_cell hb2 hd2
  replace hd3 := below_cell hb2 hd3
  replace hd4 := below_cell hb2 hd4
  replace hs0 := below_cell hb2 hs0
  replace hs1 := below_cell hb2 hs1
  replace hb0 := below_cell hb2 hb0
  replace hb1 := below_cell hb2 hb1
  replace s100 := below_cell hb2 s100
  replace s101 := below_cell hb2 s101
  have hq0 : (v2.alloc (.cells #[.int .i64 a1, .int .i64 a2] 31)).heap[v2.heap.size]? = some (.cells #[.int .i64 a1, .int .i64 a2] 31) := heap_top _ _ rfl
  have s200 := heap_cell hq0 (j := 0) rfl
  have s201 := heap_cell hq0 (j := 1) rfl
  have HB2 := Lib.hid (HB1.out.trans (hb2.mono HB1.out.size))
  obtain ⟨W2, hW⟩ : ∃ W, (v2.alloc (.cells #[.int .i64 a1, .int .i64 a2] 31)) = W := ⟨_, rfl⟩
  rw [hW] at hc0 hc1 hc2 hr0 hr1 hd0 hd1 hd2 hd3 hd4 hs0 hs1 hb0 hb1 s100 s101 s200 s201 HB2
  clear hq0 hb hb2
  go_wp2_with fail
  clear hW
  refine (HC1.out _).mono ?_
  rintro e W3 ⟨l3, c3, rfl, hi3, hb⟩
  replace hc0 := below_cell hb hc0
  replace hc1 := below_cell hb hc1
  replace hc2 := below_cell hb hc2
  replace hr0 := below_cell hb hr0
  replace hr1 := below_cell hb hr1
  replace hd0 := below_cell hb hd0
  replace hd1 := below_cell hb hd1
  replace hd2 := below_cell hb hd2
  replace hd3 := below_cell hb hd3
  replace hd4 := below_cell hb hd4
  replace hs0 := below_cell hb hs0
  replace hs1 := below_cell hb hs1
  replace hb0 := below_cell hb hb0
  replace hb1 := below_cell hb hb1
  replace s100 := below_cell hb s100
  replace s101 := below_cell hb s101
  replace s200 := below_cell hb s200
  replace s201 := below_cell hb s201
  have HI3 := Lib.hid hi3
  have HB3 := Lib.hid (HB2.out.trans (hb.mono HB2.out.size))
  clear hb hi3
  go_wp2_with fail
  refine (HC2.out _).mono ?_
  rintro e W4 ⟨l4, c4, rfl, hi4, hb⟩
  replace hc0 := below_cell hb hc0
  replace hc1 := below_cell hb hc1
  replace hc2 := below_cell hb hc2
  replace hr0 := below_cell hb hr0
  replace hr1 := below_cell hb hr1
  replace hd0 := below_cell hb hd0
  replace hd1 := below_cell hb hd1
  replace hd2 := below_cell hb hd2
  replace hd3 := below_cell hb hd3
  replace hd4 := below_cell hb hd4
  replace hs0 := below_cell hb hs0
  replace hs1 := below_cell hb hs1
  replace hb0 := below_cell hb hb0
  replace hb1 := below_cell hb hb1
  replace s100 := below_cell hb s100
  replace s101 := below_cell hb s101
  replace s200 := below_cell hb s200
  replace s201 := below_cell hb s201
  replace HI3 := Lib.hid (HI3.out.below hb)
  have HI4 := Lib.hid hi4
  have HB4 := Lib.hid (HB3.out.trans (hb.mono HB3.out.size))
  clear hb hi4
  go_wp2_with fail
  refine (sameParts_any _ _ len _ _ N D hlen _ HI3.out HI4.out).mono ?_
  rintro e W5 ⟨rfl, hb⟩
  replace hc0 := below_cell hb hc0
  replace hc1 := below_cell hb hc1
  replace hc2 := below_cell hb hc2
  replace hr0 := below_cell hb hr0
  replace hr1 := below_cell hb hr1
  replace hd0 := below_cell hb hd0
  replace hd1 := below_cell hb hd1
  replace hd2 := below_cell hb hd2
  replace hd3 := below_cell hb hd3
  replace hd4 := below_cell hb hd4
  replace hs0 := below_cell hb hs0
  replace hs1 := below_cell hb hs1
  replace hb0 := below_cell hb hb0
  replace hb1 := below_cell hb hb1
  replace s100 := below_cell hb s100
  replace s101 := below_cell hb s101
  replace s200 := below_cell hb s200
  replace s201 := below_cell hb s201
  have HB5 := Lib.hid (HB4.out.trans (hb.mono HB4.out.size))
  clear hb
  clear HI3 HI4
  go_wp2_with fail
  refine (HG1.out _).mono ?_
  rintro e W6 ⟨rfl, hb⟩
  replace hc0 := below_cell hb hc0
  replace hc1 := below_cell hb hc1
  replace hc2 := below_cell hb hc2
  replace hr0 := below_cell hb hr0
  replace hr1 := below_cell hb hr1
  replace hd0 := below_cell hb hd0
  replace hd1 := below_cell hb hd1
  replace hd2 := below_cell hb hd2
  replace hd3 := below_cell hb hd3
  replace hd4 := below_cell hb hd4
  replace hs0 := below_cell hb hs0
  replace hs1 := below_cell hb hs1
  replace hb0 := below_cell hb hb0
  replace hb1 := below_cell hb hb1
  replace s100 := below_cell hb s100
  replace s101 := below_cell hb s101
  replace s200 := below_cell hb s200
  replace s201 := below_cell hb s201
  have HB6 := Lib.hid (HB5.out.trans (hb.mono HB5.out.size))
  clear hb
  go_wp2_with fail
  refine (HG2.out _).mono ?_
  rintro e W7 ⟨rfl, hb⟩
  replace hc0 := below_cell hb hc0
  replace hc1 := below_cell hb hc1
  replace hc2 := below_cell hb hc2
  replace hr0 := below_cell hb hr0
  replace hr1 := below_cell hb hr1
  replace hd0 := below_cell hb hd0
  replace hd1 := below_cell hb hd1
  replace hd2 := below_cell hb hd2
  replace hd3 := below_cell hb hd3
  replace hd4 := below_cell hb hd4
  replace hs0 := below_cell hb hs0
  replace hs1 := below_cell hb hs1
  replace hb0 := below_cell hb hb0
  replace hb1 := below_cell hb hb1
  replace s100 := below_cell hb s100
  replace s101 := below_cell hb s101
  replace s200 := below_cell hb s200
  replace s201 := below_cell hb s201
  have HB7 := Lib.hid (HB6.out.trans (hb.mono HB6.out.size))
  clear hb
  go_wp2_with fail
  refine (HL1.out _).mono ?_
  rintro e v8 ⟨rfl, hb⟩
  have hb2 := hb.alloc hb.size (.cells #[.int .i64 l1, .int .i64 l2] 27)
  replace hc0 := below_cell hb2 hc0
  replace hc1 := below_cell hb2 hc1
  replace hc2 := below_cell hb2 hc2
  replace hr0 := below_cell hb2 hr0
  replace hr1 := below_cell hb2 hr1
  replace hd0 := below_cell hb2 hd0
  replace hd1 := below_cell hb2 hd1
  replace hd2 := below_cell hb2 hd2
  replace hd3 := below_cell hb2 hd3
  replace hd4 := below_cell hb2 hd4
  replace hs0 := below_cell hb2 hs0
  replace hs1 := below_cell hb2 hs1
  replace hb0 := below_cell hb2 hb0
  replace hb1 := below_cell hb2 hb1
  replace s100 := below_cell hb2 s100
  replace s101 := below_cell hb2 s101
  replace s200 := below_cell hb2 s200
  replace s201 := below_cell hb2 s201
  have hq0 : (v8.alloc (.cells #[.int .i64 l1, .int .i64 l2] 27)).heap[v8.heap.size]? = some (.cells #[.int .i64 l1, .int .i64 l2] 27) := heap_top _ _ rfl
  have s800 := heap_cell hq0 (j := 0) rfl
  have s801 := heap_cell hq0 (j := 1) rfl
  have HB8 := Lib.hid (HB7.out.trans (hb2.mono HB7.out.size))
  obtain ⟨W8, hW⟩ : ∃ W, (v8.alloc (.cells #[.int .i64 l1, .int .i64 l2] 27)) = W := ⟨_, rfl⟩
  rw [hW] at hc0 hc1 hc2 hr0 hr1 hd0 hd1 hd2 hd3 hd4 hs0 hs1 hb0 hb1 s100 s101 s200 s201 s800 s801 HB8
  clear hq0 hb hb2
  go_wp2_with fail
  clear hW
  refine (HL2.out _).mono ?_
  rintro e v9 ⟨rfl, hb⟩
  have hb2 := hb.alloc hb.size (.cells #[.int .i64 l1, .int .i64 l2] 27)
  replace hc0 := below_cell hb2 hc0
  replace hc1 := below_cell hb2 hc1
  replace hc2 := below_cell hb2 hc2
  replace hr0 := below_cell hb2 hr0
  replace hr1 := below_cell hb2 hr1
  replace hd0 := below_cell hb2 hd0
  replace hd1 := below_cell hb2 hd1
  replace hd2 := below_cell hb2 hd2
  replace hd3 := below_cell hb2 hd3
  replace hd4 := below_cell hb2 hd4
  replace hs0 := below_cell hb2 hs0
  replace hs1 := below_cell hb2 hs1
  replace hb0 := below_cell hb2 hb0
  replace hb1 := below_cell hb2 hb1
  replace s100 := below_cell hb2 s100
  replace s101 := below_cell hb2 s101
  replace s200 := below_cell hb2 s200
  replace s201 := below_cell hb2 s201
  replace s800 := below_cell hb2 s800
  replace s801 := below_cell hb2 s801
  have hq0 : (v9.alloc (.cells #[.int .i64 l1, .int .i64 l2] 27)).heap[v9.heap.size]? = some (.cells #[.int .i64 l1, .int .i64 l2] 27) := heap_top _ _ rfl
  have s900 := heap_cell hq0 (j := 0) rfl
  have s901 := heap_cell hq0 (j := 1) rfl
  have HB9 := Lib.hid (HB8.out.trans (hb2.mono HB8.out.size))
  obtain ⟨W9, hW⟩ : ∃ W, (v9.alloc (.cells #[.int .i64 l1, .int .i64 l2] 27)) = W := ⟨_, rfl⟩
  rw [hW] at hc0 hc1 hc2 hr0 hr1 hd0 hd1 hd2 hd3 hd4 hs0 hs1 hb0 hb1 s100 s101 s200 s201 s800 s801 s900 s901 HB9
  clear hq0 hb hb2
  go_wp2_with fail
  clear hW
  refine (HT1.out _).mono ?_
  rintro e v10 ⟨rfl, hb⟩
  have hb2 := hb.alloc hb.size (.cells #[.int .i64 t1, .int .i64 t2] 31)
  have hb3 := hb2.alloc (by have := hb.size; simp <;> omega) (.cells #[.int .i64 t3, .int .i64 t4] 31)
  replace hc0 := below_cell hb3 hc0
  replace hc1 := below_cell hb3 hc1
  replace hc2 := below_cell hb3 hc2
  replace hr0 := below_cell hb3 hr0
  replace hr1 := below_cell hb3 hr1
  replace hd0 := below_cell hb3 hd0
  replace hd1 := below_cell hb3 hd1
  replace hd2 := below_cell hb3 hd2
  replace hd3 := below_cell hb3 hd3
  replace hd4 := below_cell hb3 hd4
  replace hs0 := below_cell hb3 hs0
  replace hs1 := below_cell hb3 hs1
  replace hb0 := below_cell hb3 hb0
  replace hb1 := below_cell hb3 hb1
  replace s100 := below_cell hb3 s100
  replace s101 := below_cell hb3 s101
  replace s200 := below_cell hb3 s200
  replace s201 := below_cell hb3 s201
  replace s800 := below_cell hb3 s800
  replace s801 := below_cell hb3 s801
  replace s900 := below_cell hb3 s900
  replace s901 := below_cell hb3 s901
  have hq0 : ((v10.alloc (.cells #[.int .i64 t1, .int .i64 t2] 31)).alloc (.cells #[.int .i64 t3, .int .i64 t4] 31)).heap[v10.heap.size]? = some (.cells #[.int .i64 t1, .int .i64 t2] 31) := heap_up (heap_top _ _ rfl) _
  have s1000 := heap_cell hq0 (j := 0) rfl
  have s1001 := heap_cell hq0 (j := 1) rfl
  have hq1 : ((v10.alloc (.cells #[.int .i64 t1, .int .i64 t2] 31)).alloc (.cells #[.int .i64 t3, .int .i64 t4] 31)).heap[v10.heap.size + 1]? = some (.cells #[.int .i64 t3, .int .i64 t4] 31) := heap_top _ _ (by simp)
  have s1010 := heap_cell hq1 (j := 0) rfl
  have s1011 := heap_cell hq1 (j := 1) rfl
  have HB10 := Lib.hid (HB9.out.trans (hb3.mono HB9.out.size))
  obtain ⟨W10, hW⟩ : ∃ W, ((v10.alloc (.cells #[.int .i64 t1, .int .i64 t2] 31)).alloc (.cells #[.int .i64 t3, .int .i64 t4] 31)) = W := ⟨_, rfl⟩
  rw [hW] at hc0 hc1 hc2 hr0 hr1 hd0 hd1 hd2 hd3 hd4 hs0 hs1 hb0 hb1 s100 s101 s200 s201 s800 s801 s900 s901 s1000 s1001 s1010 s1011 HB10
  clear hq0 hq1 hb hb2 hb3
  go_wp2_with fail
  clear hW
  refine (HT2.out _).mono ?_
  rintro e v11 ⟨rfl, hb⟩
  have hb2 := hb.alloc hb.size (.cells #[.int .i64 t1, .int .i64 t2] 31)
  have hb3 := hb2.alloc (by have := hb.size; simp <;> omega) (.cells #[.int .i64 t3, .int .i64 t4] 31)
  replace hc0 := below_cell hb3 hc0
  replace hc1 := below_cell hb3 hc1
  replace hc2 := below_cell hb3 hc2
  replace hr0 := below_cell hb3 hr0
  replace hr1 := below_cell hb3 hr1
  replace hd0 := below_cell hb3 hd0
  replace hd1 := below_cell hb3 hd1
  replace hd2 := below_cell hb3 hd2
  replace hd3 := below_cell hb3 hd3
  replace hd4 := below_cell hb3 hd4
  replace hs0 := below_cell hb3 hs0
  replace hs1 := below_cell hb3 hs1
  replace hb0 := below_cell hb3 hb0
  replace hb1 := below_cell hb3 hb1
  replace s100 := below_cell hb3 s100
  replace s101 := below_cell hb3 s101
  replace s200 := below_cell hb3 s200
  replace s201 := below_cell hb3 s201
  replace s800 := below_cell hb3 s800
  replace s801 := below_cell hb3 s801
  replace s900 := below_cell hb3 s900
  replace s901 := below_cell hb3 s901
  replace s1000 := below_cell hb3 s1000
  replace s1001 := below_cell hb3 s1001
  replace s1010 := below_cell hb3 s1010
  replace s1011 := below_cell hb3 s1011
  have hq0 : ((v11.alloc (.cells #[.int .i64 t1, .int .i64 t2] 31)).alloc (.cells #[.int .i64 t3, .int .i64 t4] 31)).heap[v11.heap.size]? = some (.cells #[.int .i64 t1, .int .i64 t2] 31) := heap_up (heap_top _ _ rfl) _
  have s1100 := heap_cell hq0 (j := 0) rfl
  have s1101 := heap_cell hq0 (j := 1) rfl
  have hq1 : ((v11.alloc (.cells #[.int .i64 t1, .int .i64 t2] 31)).alloc (.cells #[.int .i64 t3, .int .i64 t4] 31)).heap[v11.heap.size + 1]? = some (.cells #[.int .i64 t3, .int .i64 t4] 31) := heap_top _ _ (by simp)
  have s1110 := heap_cell hq1 (j := 0) rfl
  have s1111 := heap_cell hq1 (j := 1) rfl
  have HB11 := Lib.hid (HB10.out.trans (hb3.mono HB10.out.size))
  obtain ⟨W11, hW⟩ : ∃ W, ((v11.alloc (.cells #[.int .i64 t1, .int .i64 t2] 31)).alloc (.cells #[.int .i64 t3, .int .i64 t4] 31)) = W := ⟨_, rfl⟩
  rw [hW] at hc0 hc1 hc2 hr0 hr1 hd0 hd1 hd2 hd3 hd4 hs0 hs1 hb0 hb1 s100 s101 s200 s201 s800 s801 s900 s901 s1000 s1001 s1010 s1011 s1100 s1101 s1110 s1111 HB11
  clear hq0 hq1 hb hb2 hb3
  go_wp2_with fail
  clear hW
  go_ret
  exact ⟨rfl, HB11.out⟩

end Go.Proofs.Ytmhhfopiaimhbaa

namespace Go.Proofs.Ytmhhfopiaimhbaa
open Go.ChangeShapes Go.WideShapes Go.ChangeAt Go.RowKit Go.Joins

theorem cellsDouble : Try.prog.cellsOf 29 = 5 := by kernel_rfl
section
variable {H : Type} {enc : TypeId × Value → H} {w : World} {base : Nat} {sp : Nat → Bool} {held : Bool}
set_option maxRecDepth 100000 in
/-- A double rule that came in. -/
theorem open_double {r : Reach} {b0 : Nat} {v : Value} {d : DataW H} {p : List MemPlace} (hv : Value.okWide Try.prog w r b0 29 v) (h : DataW.Trod enc Try.prog w base sp held 29 v d p) :
    ∃ a b c d' e : Int, v = .agg #[.int .i64 a, .int .i64 b, .int .i64 c, .int .i64 d', .int .i64 e] ∧ d = .agg [.lit (.int .i64 a), .lit (.int .i64 b), .lit (.int .i64 c), .lit (.int .i64 d'), .lit (.int .i64 e)] ∧ p = [] ∧
      (Lit.int .i64 a).wf = true ∧ (Lit.int .i64 b).wf = true ∧ (Lit.int .i64 c).wf = true ∧ (Lit.int .i64 d').wf = true ∧ (Lit.int .i64 e).wf = true := by
  obtain ⟨cs, rfl, hsz⟩ := okWide_struct Try.underlying29 hv
  obtain ⟨l⟩ := cs
  match l, hsz.trans cellsDouble with
  | [c0, c1, c2, c3, c4], _ =>
    obtain ⟨fuel, hf⟩ := h
    obtain ⟨xs, n, _, hx, _, hlen, hg⟩ := DataW.trod_struct Try.underlying29 hf
    match xs, hlen with
    | [y0, y1, y2, y3, y4], _ =>
      have g0 := hg 0 _ rfl
      have g1 := hg 1 _ rfl
      have g2 := hg 2 _ rfl
      have g3 := hg 3 _ rfl
      have g4 := hg 4 _ rfl
      simp [Value.cells, cellsInt] at g0 g1 g2 g3 g4
      obtain ⟨a, rfl, rfl, w0⟩ := read_int g0
      obtain ⟨b, rfl, rfl, w1⟩ := read_int g1
      obtain ⟨c, rfl, rfl, w2⟩ := read_int g2
      obtain ⟨d', rfl, rfl, w3⟩ := read_int g3
      obtain ⟨e, rfl, rfl, w4⟩ := read_int g4
      simp only [Prod.mk.injEq] at hx
      exact ⟨a, b, c, d', e, rfl, hx.1, by simpa using hx.2, w0, w1, w2, w3, w4⟩
theorem shut_double {a b c d e : Int} (w0 : (Lit.int .i64 a).wf = true) (w1 : (Lit.int .i64 b).wf = true) (w2 : (Lit.int .i64 c).wf = true) (w3 : (Lit.int .i64 d).wf = true) (w4 : (Lit.int .i64 e).wf = true) :
    DataW.Trod enc Try.prog w base sp held 29 (.agg #[.int .i64 a, .int .i64 b, .int .i64 c, .int .i64 d, .int .i64 e]) (.agg [.lit (.int .i64 a), .lit (.int .i64 b), .lit (.int .i64 c), .lit (.int .i64 d), .lit (.int .i64 e)]) [] := by
  refine ⟨2, ?_⟩
  have k : ∀ z : Int, (Lit.int .i64 z).wf = true → DataW.trod enc Try.prog w base sp held 1 3 [.int .i64 z] = some (.lit (.int .i64 z), []) := fun z hz => by simp [DataW.trod, Try.underlying3, hz]
  have := trod_struct_mk (enc := enc) (P := Try.prog) (w := w) (base := base) (spare := sp) (held := held) (n := 1) (cs := [.int .i64 a, .int .i64 b, .int .i64 c, .int .i64 d, .int .i64 e])
    (xs := [(.lit (.int .i64 a), []), (.lit (.int .i64 b), []), (.lit (.int .i64 c), []), (.lit (.int .i64 d), []), (.lit (.int .i64 e), [])]) Try.underlying29 (by rw [cellsDouble]; rfl) (by simp [cellsInt, k _ w0, k _ w1, k _ w2, k _ w3, k _ w4])
  simpa [Value.cells] using this
end

set_option maxRecDepth 100000 in
theorem rules_lifted (os : Os) (started : os.Started) (H : Type) (enc : TypeId × Value → H) :
    ReturnsInHanded {} Try.checked os 3 .any (Rows.sampleRulesSpec.pre6 enc Try.prog Try.f3 Rows.sampleRulesRow.domain false) (Rows.sampleRulesSpec.post enc Try.prog Try.f3 false true false false) := by
  refine returnsInHanded_of_change (C := Try.checked) ownKnob_none started (by kernel_rfl) Try.func3
    (ChangeSpec.witness6 (enc := enc) (C := Try.checked) false ⟨#[], #[.agg #[.int .i64 0, .int .i64 0, .int .i64 0], .agg #[.int .i64 0, .int .i64 0], .agg #[.int .i64 0, .int .i64 0, .int .i64 0, .int .i64 0, .int .i64 0], .int .i64 0, .int .i64 0, .agg #[.int .i64 0, .int .i64 0], .agg #[.int .i64 0, .int .i64 0]], []⟩ 8 (by kernel_rfl) (by kernel_rfl) (by kernel_rfl) (by kernel_rfl)) ?_
  intro W base args ds gs before hval0 hW _ _
  have hval : ∀ (j : Nat) t v, Try.f3.params[j]? = some t → args[j]? = some v → Value.okWide Try.prog W .any base t v := hval0
  have hW' := hW
  obtain ⟨pp, qq, hA0, hV, rfl, hfz, hnd⟩ := hW
  have hA : DataW.TrodAll enc Try.prog W 0 (fun _ => true) true Try.f3.params.toList args.toList ds pp := hA0
  rw [Try.params3] at hA hval
  obtain ⟨v0, vs0, d0, ds0, p0, q0, hargs, rfl, rfl, h0, r0⟩ := trodAll_cons hA
  obtain ⟨v1, vs1, d1, ds1, p1, q1, rfl, rfl, rfl, h1, r1⟩ := trodAll_cons r0
  obtain ⟨v2, vs2, d2, ds2, p2, q2, rfl, rfl, rfl, h2, r2⟩ := trodAll_cons r1
  obtain ⟨v3, vs3, d3, ds3, p3, q3, rfl, rfl, rfl, h3, r3⟩ := trodAll_cons r2
  obtain ⟨v4, vs4, d4, ds4, p4, q4, rfl, rfl, rfl, h4, r4⟩ := trodAll_cons r3
  obtain ⟨v5, vs5, d5, ds5, p5, q5, rfl, rfl, rfl, h5, r5⟩ := trodAll_cons r4
  obtain ⟨v6, vs6, d6, ds6, p6, q6, rfl, rfl, rfl, h6, r6⟩ := trodAll_cons r5
  obtain ⟨rfl, rfl, rfl⟩ := trodAll_nil r6
  obtain rfl : args = #[v0, v1, v2, v3, v4, v5, v6] := by cases args; simp_all
  obtain ⟨rfl, rfl⟩ := trodVars_none hV
  obtain ⟨b, lo, hi, rfl, rfl, rfl, wb, wl, wh⟩ := open_cargo (hval 0 25 v0 rfl rfl) h0
  obtain ⟨x, y, rfl, rfl, rfl, wx, wy⟩ := open_rule (hval 1 27 v1 rfl rfl) h1
  obtain ⟨x1, a, r, x2, t, rfl, rfl, rfl, u0, u1, u2, u3, u4⟩ := open_double (hval 2 29 v2 rfl rfl) h2
  obtain ⟨good, rfl, rfl, rfl, wg⟩ := open_int Try.underlying3 (hval 3 3 v3 rfl rfl) h3
  obtain ⟨bad, rfl, rfl, rfl, wd⟩ := open_int Try.underlying3 (hval 4 3 v4 rfl rfl) h4
  obtain ⟨p, q, rfl, rfl, rfl, wp, wq⟩ := open_part (hval 5 31 v5 rfl rfl) h5
  obtain ⟨m, n, rfl, rfl, rfl, wm, wn⟩ := open_part (hval 6 31 v6 rfl rfl) h6
  clear hA0 hval0
  simp only [List.append_nil] at hW'
  refine (rules_walk b lo hi x y x1 a r x2 t good bad p q m n W).mono fun e W' ⟨he, hb⟩ => ?_
  subst he
  refine ⟨_, rfl, _, _, _, [], [], [], hW', ?_, ?_, rfl, hb.frame _, fun h => by cases h⟩
  · exact trodAll_mk1 (shut_bool Try.underlying4 true)
  · exact trodAll_cons_mk (shut_cargo wb wl wh) (trodAll_cons_mk (shut_rule wx wy) (trodAll_cons_mk (shut_double u0 u1 u2 u3 u4) (trodAll_cons_mk (shut_int Try.underlying3 wg) (trodAll_cons_mk (shut_int Try.underlying3 wd) (trodAll_cons_mk (shut_part wp wq) (trodAll_cons_mk (shut_part wm wn) trodAll_mk0))))))

/-- SampleRules returns true for every input. -/
theorem rules_holds : Rows.SampleRulesSaid :=
  OpenClaim.holds_of_wide 3 Try.f3 rfl rfl rfl rfl rfl rfl rfl ⟨rfl, rfl, rfl, rfl, rfl⟩ rfl rfl rfl rfl rfl (by kernel_rfl) Try.func3 (by kernel_rfl)
    (of_decide_eq_true (by kernel_rfl)) (by unfold Func.isWrapper; first | (rw [if_pos (by decide +kernel)]; kernel_rfl) | (rw [if_neg (by decide +kernel)]; exact ⟨rfl, rfl⟩))
    (fun os started H enc _ => rules_lifted os started H enc)

end Go.Proofs.Ytmhhfopiaimhbaa
