/-
  SampleKnows: the walk of the law.
-/
import Derived.Test.YtmpbdbfflbdppaaRFind
namespace Go.Proofs.Ytmpbdbfflbdppaa
open Go.RowKit Go.Shelf

/-- What two functions return alike: a span and a code; a cargo and a code; a list and a code; a number and a code. -/
abbrev AlikeS (f g : Nat) (args : Array Value) (v : Value) (k : Int) : Prop :=
  (∀ u, Calls Try.prog f args u fun e u' => e = .returned (.tuple #[v, .int .i64 k]) ∧ Below u.heap.size u u') ∧
  (∀ u, Calls Try.prog g args u fun e u' => e = .returned (.tuple #[v, .int .i64 k]) ∧ Below u.heap.size u u')
abbrev AlikeL (f g : Nat) (args : Array Value) (L : List Int) (k : Int) : Prop :=
  (∀ u, Calls Try.prog f args u fun e u' => ∃ v, e = .returned (.tuple #[v, .int .i64 k]) ∧ IntsAt u' v L ∧ Below u.heap.size u u') ∧
  (∀ u, Calls Try.prog g args u fun e u' => ∃ v, e = .returned (.tuple #[v, .int .i64 k]) ∧ IntsAt u' v L ∧ Below u.heap.size u u')

theorem alike_can (b lo hi o f : Int) : ∃ x y k, AlikeS 15 16 #[cargoV b lo hi, .agg #[.int .i64 o, .int .i64 f]] (.agg #[.int .i64 x, .int .i64 y]) k :=
  ⟨_, _, _, fun u => can_top b lo hi o f u, fun u => rCan_any b lo hi o f u⟩
theorem alike_rest (b lo hi o f : Int) : ∃ x y z k, AlikeS 17 18 #[cargoV b lo hi, .agg #[.int .i64 o, .int .i64 f]] (.agg #[.int .i64 x, .int .i64 y, .int .i64 z]) k :=
  ⟨_, _, _, _, fun u => rest_top b lo hi o f u, fun u => rRest_any b lo hi o f u⟩
theorem alike_likely (b lo hi o f : Int) : ∃ L k, L.length ≤ 1000 ∧ AlikeL 19 20 #[cargoV b lo hi, .agg #[.int .i64 o, .int .i64 f]] L k :=
  ⟨Pure.likelyL b lo hi o f, _, by
    unfold Pure.likelyL
    split
    · rename_i h
      obtain ⟨q1, _⟩ := Pure.afterE_zero h
      have h1 := Pure.best_length (fun x => Pure.ways b.toNat x o f) (Pure.nums b.toNat lo hi o f)
      have h2 := Pure.nums_length b.toNat lo hi o f
      show (Pure.best _ _).length ≤ 1000
      omega
    · simp, fun u => (likely_top b lo hi o f u).mono fun e u' h => by
      obtain ⟨v, h1, h2, h3⟩ := h
      exact ⟨v, h1, IntsAt.of_row h2, h3⟩, fun u => rLikely_any b lo hi o f u⟩
theorem alike_bound (b lo hi o f p q : Int) : ∃ x k, AlikeS 22 23 #[cargoV b lo hi, .agg #[.int .i64 o, .int .i64 f], .agg #[.int .i64 p, .int .i64 q]] (.int .i64 x) k :=
  ⟨_, _, fun u => bound_top b lo hi o f p q u, fun u => rBound_any b lo hi o f p q u⟩
theorem alike_find (b lo hi d p q : Int) : ∃ x k, AlikeS 24 25 #[cargoV b lo hi, .int .i64 d, .agg #[.int .i64 p, .int .i64 q]] (.int .i64 x) k :=
  ⟨_, _, fun u => find_top b lo hi d p q u, fun u => rFind_any b lo hi d p q u⟩

set_option maxHeartbeats 4000000 in
set_option maxRecDepth 100000 in
theorem knows_walk (b lo hi o f p q d : Int) (w : World) :
    Calls Try.prog 3 #[cargoV b lo hi, .agg #[.int .i64 o, .int .i64 f], .agg #[.int .i64 p, .int .i64 q], .int .i64 d] w fun e w' => e = .returned (.bool true) ∧ Below w.heap.size w w' := by
  obtain ⟨x1, y1, k1, ha1, ha2⟩ := alike_can b lo hi o f
  obtain ⟨x2, y2, z2, k2, hb1, hb2⟩ := alike_rest b lo hi o f
  obtain ⟨L, k3, hlen, hl1, hl2⟩ := alike_likely b lo hi o f
  obtain ⟨x4, k4, hc1, hc2⟩ := alike_bound b lo hi o f p q
  obtain ⟨x5, k5, hd1, hd2⟩ := alike_find b lo hi d p q
  have HA1 := Lib.hid ha1
  have HA2 := Lib.hid ha2
  have HB1 := Lib.hid hb1
  have HB2 := Lib.hid hb2
  have HL1 := Lib.hid hl1
  have HL2 := Lib.hid hl2
  have HC1 := Lib.hid hc1
  have HC2 := Lib.hid hc2
  have HD1 := Lib.hid hd1
  have HD2 := Lib.hid hd2
  clear ha1 ha2 hb1 hb2 hl1 hl2 hc1 hc2 hd1 hd2
  go_enter Try.func3, Try.ntmps3
  go_wp2_with fail
  obtain ⟨W0, hW⟩ : ∃ W1, ((w.alloc (.cells #[.int .i64 b, .int .i64 lo, .int .i64 hi] 25)).alloc (.cells #[.int .i64 o, .int .i64 f] 27)).alloc (.cells #[.int .i64 p, .int .i64 q] 29) = W1 := ⟨_, rfl⟩
  have HT0 : Hid (Below w.heap.size w W0) := Lib.hid (by rw [← hW]; exact (((Below.refl _ _).alloc (Nat.le_refl _) _).alloc (by simp) _).alloc (by simp; omega) _)
  have hc : W0.heap[w.heap.size]? = some (.cells #[.int .i64 b, .int .i64 lo, .int .i64 hi] 25) := by rw [← hW]; exact heap_up (heap_up (heap_top _ _ rfl) _) _
  have hd : W0.heap[w.heap.size + 1]? = some (.cells #[.int .i64 o, .int .i64 f] 27) := by rw [← hW]; exact heap_up (heap_top _ _ (by simp)) _
  have hp : W0.heap[w.heap.size + 1 + 1]? = some (.cells #[.int .i64 p, .int .i64 q] 29) := by rw [← hW]; exact heap_top _ _ (by simp)
  have c0 := heap_cell hc (j := 0) rfl
  have c1 := heap_cell hc (j := 1) rfl
  have c2 := heap_cell hc (j := 2) rfl
  have d0 := heap_cell hd (j := 0) rfl
  have d1 := heap_cell hd (j := 1) rfl
  have p0 := heap_cell hp (j := 0) rfl
  have p1 := heap_cell hp (j := 1) rfl
  rw [hW]
  clear hW hc hd hp
  refine (HA1.out _).mono ?_
  rintro e v1 ⟨rfl, hb⟩
  have hb2 := hb.alloc hb.size (.cells #[.int .i64 x1, .int .i64 y1] 23)
  replace c0 := below_cell hb2 c0
  replace c1 := below_cell hb2 c1
  replace c2 := below_cell hb2 c2
  replace d0 := below_cell hb2 d0
  replace d1 := below_cell hb2 d1
  replace p0 := below_cell hb2 p0
  replace p1 := below_cell hb2 p1
  have s10 := heap_cell (heap_top v1 (.cells #[.int .i64 x1, .int .i64 y1] 23) rfl) (j := 0) rfl
  have s11 := heap_cell (heap_top v1 (.cells #[.int .i64 x1, .int .i64 y1] 23) rfl) (j := 1) rfl
  have HT1 := Lib.hid (HT0.out.trans (hb2.mono HT0.out.size))
  obtain ⟨W1, hW⟩ : ∃ W, v1.alloc (.cells #[.int .i64 x1, .int .i64 y1] 23) = W := ⟨_, rfl⟩
  rw [hW] at c0 c1 c2 d0 d1 p0 p1 s10 s11 HT1
  clear hb hb2
  go_wp2_with fail
  clear hW
  refine (HA2.out _).mono ?_
  rintro e v2 ⟨rfl, hb⟩
  have hb2 := hb.alloc hb.size (.cells #[.int .i64 x1, .int .i64 y1] 23)
  replace c0 := below_cell hb2 c0
  replace c1 := below_cell hb2 c1
  replace c2 := below_cell hb2 c2
  replace d0 := below_cell hb2 d0
  replace d1 := below_cell hb2 d1
  replace p0 := below_cell hb2 p0
  replace p1 := below_cell hb2 p1
  replace s10 := below_cell hb2 s10
  replace s11 := below_cell hb2 s11
  have s20 := heap_cell (heap_top v2 (.cells #[.int .i64 x1, .int .i64 y1] 23) rfl) (j := 0) rfl
  have s21 := heap_cell (heap_top v2 (.cells #[.int .i64 x1, .int .i64 y1] 23) rfl) (j := 1) rfl
  have HT2 := Lib.hid (HT1.out.trans (hb2.mono HT1.out.size))
  obtain ⟨W2, hW⟩ : ∃ W, v2.alloc (.cells #[.int .i64 x1, .int .i64 y1] 23) = W := ⟨_, rfl⟩
  rw [hW] at c0 c1 c2 d0 d1 p0 p1 s10 s11 s20 s21 HT2
  clear hb hb2
  go_wp2_with fail
  clear hW
  refine (HB1.out _).mono ?_
  rintro e v3 ⟨rfl, hb⟩
  have hb2 := hb.alloc hb.size (.cells #[.int .i64 x2, .int .i64 y2, .int .i64 z2] 25)
  replace c0 := below_cell hb2 c0
  replace c1 := below_cell hb2 c1
  replace c2 := below_cell hb2 c2
  replace d0 := below_cell hb2 d0
  replace d1 := below_cell hb2 d1
  replace p0 := below_cell hb2 p0
  replace p1 := below_cell hb2 p1
  replace s10 := below_cell hb2 s10
  replace s11 := below_cell hb2 s11
  replace s20 := below_cell hb2 s20
  replace s21 := below_cell hb2 s21
  have s30 := heap_cell (heap_top v3 (.cells #[.int .i64 x2, .int .i64 y2, .int .i64 z2] 25) rfl) (j := 0) rfl
  have s31 := heap_cell (heap_top v3 (.cells #[.int .i64 x2, .int .i64 y2, .int .i64 z2] 25) rfl) (j := 1) rfl
  have s32 := heap_cell (heap_top v3 (.cells #[.int .i64 x2, .int .i64 y2, .int .i64 z2] 25) rfl) (j := 2) rfl
  have HT3 := Lib.hid (HT2.out.trans (hb2.mono HT2.out.size))
  obtain ⟨W3, hW⟩ : ∃ W, v3.alloc (.cells #[.int .i64 x2, .int .i64 y2, .int .i64 z2] 25) = W := ⟨_, rfl⟩
  rw [hW] at c0 c1 c2 d0 d1 p0 p1 s10 s11 s20 s21 s30 s31 s32 HT3
  clear hb hb2
  go_wp2_with fail
  clear hW
  refine (HB2.out _).mono ?_
  rintro e v4 ⟨rfl, hb⟩
  have hb2 := hb.alloc hb.size (.cells #[.int .i64 x2, .int .i64 y2, .int .i64 z2] 25)
  replace c0 := below_cell hb2 c0
  replace c1 := below_cell hb2 c1
  replace c2 := below_cell hb2 c2
  replace d0 := below_cell hb2 d0
  replace d1 := below_cell hb2 d1
  replace p0 := below_cell hb2 p0
  replace p1 := below_cell hb2 p1
  replace s10 := below_cell hb2 s10
  replace s11 := below_cell hb2 s11
  replace s20 := below_cell hb2 s20
  replace s21 := below_cell hb2 s21
  replace s30 := below_cell hb2 s30
  replace s31 := below_cell hb2 s31
  replace s32 := below_cell hb2 s32
  have s40 := heap_cell (heap_top v4 (.cells #[.int .i64 x2, .int .i64 y2, .int .i64 z2] 25) rfl) (j := 0) rfl
  have s41 := heap_cell (heap_top v4 (.cells #[.int .i64 x2, .int .i64 y2, .int .i64 z2] 25) rfl) (j := 1) rfl
  have s42 := heap_cell (heap_top v4 (.cells #[.int .i64 x2, .int .i64 y2, .int .i64 z2] 25) rfl) (j := 2) rfl
  have HT4 := Lib.hid (HT3.out.trans (hb2.mono HT3.out.size))
  obtain ⟨W4, hW⟩ : ∃ W, v4.alloc (.cells #[.int .i64 x2, .int .i64 y2, .int .i64 z2] 25) = W := ⟨_, rfl⟩
  rw [hW] at c0 c1 c2 d0 d1 p0 p1 s10 s11 s20 s21 s30 s31 s32 s40 s41 s42 HT4
  clear hb hb2
  go_wp2_with fail
  clear hW
  refine (HL1.out _).mono ?_
  rintro e W5 ⟨l5, rfl, hi5, hb⟩
  replace c0 := below_cell hb c0
  replace c1 := below_cell hb c1
  replace c2 := below_cell hb c2
  replace d0 := below_cell hb d0
  replace d1 := below_cell hb d1
  replace p0 := below_cell hb p0
  replace p1 := below_cell hb p1
  replace s10 := below_cell hb s10
  replace s11 := below_cell hb s11
  replace s20 := below_cell hb s20
  replace s21 := below_cell hb s21
  replace s30 := below_cell hb s30
  replace s31 := below_cell hb s31
  replace s32 := below_cell hb s32
  replace s40 := below_cell hb s40
  replace s41 := below_cell hb s41
  replace s42 := below_cell hb s42
  have HI5 := Lib.hid hi5
  have HT5 := Lib.hid (HT4.out.trans (hb.mono HT4.out.size))
  clear hb hi5
  go_wp2_with fail
  refine (HL2.out _).mono ?_
  rintro e W6 ⟨l6, rfl, hi6, hb⟩
  replace c0 := below_cell hb c0
  replace c1 := below_cell hb c1
  replace c2 := below_cell hb c2
  replace d0 := below_cell hb d0
  replace d1 := below_cell hb d1
  replace p0 := below_cell hb p0
  replace p1 := below_cell hb p1
  replace s10 := below_cell hb s10
  replace s11 := below_cell hb s11
  replace s20 := below_cell hb s20
  replace s21 := below_cell hb s21
  replace s30 := below_cell hb s30
  replace s31 := below_cell hb s31
  replace s32 := below_cell hb s32
  replace s40 := below_cell hb s40
  replace s41 := below_cell hb s41
  replace s42 := below_cell hb s42
  replace HI5 := Lib.hid (HI5.out.below hb)
  have HI6 := Lib.hid hi6
  have HT6 := Lib.hid (HT5.out.trans (hb.mono HT5.out.size))
  clear hb hi6
  go_wp2_with fail
  refine (sameInts_any _ _ L hlen _ HI5.out HI6.out).mono ?_
  rintro e W7 ⟨rfl, hb⟩
  replace c0 := below_cell hb c0
  replace c1 := below_cell hb c1
  replace c2 := below_cell hb c2
  replace d0 := below_cell hb d0
  replace d1 := below_cell hb d1
  replace p0 := below_cell hb p0
  replace p1 := below_cell hb p1
  replace s10 := below_cell hb s10
  replace s11 := below_cell hb s11
  replace s20 := below_cell hb s20
  replace s21 := below_cell hb s21
  replace s30 := below_cell hb s30
  replace s31 := below_cell hb s31
  replace s32 := below_cell hb s32
  replace s40 := below_cell hb s40
  replace s41 := below_cell hb s41
  replace s42 := below_cell hb s42
  have HT7 := Lib.hid (HT6.out.trans (hb.mono HT6.out.size))
  clear hb
  go_wp2_with fail
  refine (HC1.out _).mono ?_
  rintro e W8 ⟨rfl, hb⟩
  replace c0 := below_cell hb c0
  replace c1 := below_cell hb c1
  replace c2 := below_cell hb c2
  replace d0 := below_cell hb d0
  replace d1 := below_cell hb d1
  replace p0 := below_cell hb p0
  replace p1 := below_cell hb p1
  replace s10 := below_cell hb s10
  replace s11 := below_cell hb s11
  replace s20 := below_cell hb s20
  replace s21 := below_cell hb s21
  replace s30 := below_cell hb s30
  replace s31 := below_cell hb s31
  replace s32 := below_cell hb s32
  replace s40 := below_cell hb s40
  replace s41 := below_cell hb s41
  replace s42 := below_cell hb s42
  have HT8 := Lib.hid (HT7.out.trans (hb.mono HT7.out.size))
  clear hb
  go_wp2_with fail
  refine (HC2.out _).mono ?_
  rintro e W9 ⟨rfl, hb⟩
  replace c0 := below_cell hb c0
  replace c1 := below_cell hb c1
  replace c2 := below_cell hb c2
  replace d0 := below_cell hb d0
  replace d1 := below_cell hb d1
  replace p0 := below_cell hb p0
  replace p1 := below_cell hb p1
  replace s10 := below_cell hb s10
  replace s11 := below_cell hb s11
  replace s20 := below_cell hb s20
  replace s21 := below_cell hb s21
  replace s30 := below_cell hb s30
  replace s31 := below_cell hb s31
  replace s32 := below_cell hb s32
  replace s40 := below_cell hb s40
  replace s41 := below_cell hb s41
  replace s42 := below_cell hb s42
  have HT9 := Lib.hid (HT8.out.trans (hb.mono HT8.out.size))
  clear hb
  go_wp2_with fail
  refine (HD1.out _).mono ?_
  rintro e W10 ⟨rfl, hb⟩
  replace c0 := below_cell hb c0
  replace c1 := below_cell hb c1
  replace c2 := below_cell hb c2
  replace d0 := below_cell hb d0
  replace d1 := below_cell hb d1
  replace p0 := below_cell hb p0
  replace p1 := below_cell hb p1
  replace s10 := below_cell hb s10
  replace s11 := below_cell hb s11
  replace s20 := below_cell hb s20
  replace s21 := below_cell hb s21
  replace s30 := below_cell hb s30
  replace s31 := below_cell hb s31
  replace s32 := below_cell hb s32
  replace s40 := below_cell hb s40
  replace s41 := below_cell hb s41
  replace s42 := below_cell hb s42
  have HT10 := Lib.hid (HT9.out.trans (hb.mono HT9.out.size))
  clear hb
  go_wp2_with fail
  refine (HD2.out _).mono ?_
  rintro e W11 ⟨rfl, hb⟩
  replace c0 := below_cell hb c0
  replace c1 := below_cell hb c1
  replace c2 := below_cell hb c2
  replace d0 := below_cell hb d0
  replace d1 := below_cell hb d1
  replace p0 := below_cell hb p0
  replace p1 := below_cell hb p1
  replace s10 := below_cell hb s10
  replace s11 := below_cell hb s11
  replace s20 := below_cell hb s20
  replace s21 := below_cell hb s21
  replace s30 := below_cell hb s30
  replace s31 := below_cell hb s31
  replace s32 := below_cell hb s32
  replace s40 := below_cell hb s40
  replace s41 := below_cell hb s41
  replace s42 := below_cell hb s42
  have HT11 := Lib.hid (HT10.out.trans (hb.mono HT10.out.size))
  clear hb
  go_wp2_with fail
  go_ret
  exact ⟨rfl, HT11.out⟩

end Go.Proofs.Ytmpbdbfflbdppaa
