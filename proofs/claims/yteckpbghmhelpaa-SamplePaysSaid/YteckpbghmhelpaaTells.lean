/-
  SampleTells: the walk of the law.
-/
import Derived.Test.YteckpbghmhelpaaAtMost
import Derived.Test.YteckpbghmhelpaaRefC
namespace Go.Proofs.Yteckpbghmhelpaa
open Go.RowKit Go.Shelf

namespace Pure
/-- v if there is no error, otherwise 0. -/
def sel (code v : Int) : Int := if code = 0 then v else 0
theorem res2_part (code n d : Int) : res2 code (partV n d) = .tuple #[.agg #[.int .i64 (sel code (n / gcd n d)), .int .i64 (sel code (d / gcd n d))], .int .i64 code] := by
  unfold res2 sel
  by_cases h : code = 0
  · simp [h]
  · simp [h]
theorem resI_sel (code v : Int) : resI code v = .tuple #[.int .i64 (sel code v), .int .i64 code] := by
  unfold resI sel
  by_cases h : code = 0
  · simp [h]
  · simp [h]
end Pure

/-- What two functions return alike: a fraction and a code. -/
abbrev AlikeP (f g : Nat) (args : Array Value) (x y k : Int) : Prop :=
  (∀ u, Calls Try.prog f args u fun e u' => e = .returned (.tuple #[.agg #[.int .i64 x, .int .i64 y], .int .i64 k]) ∧ Below u.heap.size u u') ∧
  (∀ u, Calls Try.prog g args u fun e u' => e = .returned (.tuple #[.agg #[.int .i64 x, .int .i64 y], .int .i64 k]) ∧ Below u.heap.size u u')

theorem alike_chance (b lo hi d o f : Int) : ∃ x y k, AlikeP 16 17 #[cargoV b lo hi, .int .i64 d, .agg #[.int .i64 o, .int .i64 f]] x y k :=
  ⟨_, _, _, fun u => (chance_any b lo hi d o f u).mono fun e u' h => ⟨by rw [h.1, Pure.res2_part], h.2⟩, fun u => (rChance_any b lo hi d o f u).mono fun e u' h => ⟨by rw [h.1, Pure.res2_part], h.2⟩⟩
theorem alike_atMost (b lo hi d o f : Int) : ∃ x y k, AlikeP 18 19 #[cargoV b lo hi, .int .i64 d, .agg #[.int .i64 o, .int .i64 f]] x y k :=
  ⟨_, _, _, fun u => (atMost_any b lo hi d o f u).mono fun e u' h => ⟨by rw [h.1, Pure.res2_part], h.2⟩, fun u => (rAtMost_any b lo hi d o f u).mono fun e u' h => ⟨by rw [h.1, Pure.res2_part], h.2⟩⟩
theorem alike_mean (b lo hi d o : Int) : ∃ x y k, AlikeP 20 21 #[cargoV b lo hi, .int .i64 d, .int .i64 o] x y k :=
  ⟨_, _, _, fun u => (mean_any b lo hi d o u).mono fun e u' h => ⟨by rw [h.1, Pure.res2_part], h.2⟩, fun u => (rMean_any b lo hi d o u).mono fun e u' h => ⟨by rw [h.1, Pure.res2_part], h.2⟩⟩
theorem alike_ways (n m : Int) : ∃ x k, (∀ u, Calls Try.prog 14 #[.int .i64 n, .int .i64 m] u fun e u' => e = .returned (.tuple #[.int .i64 x, .int .i64 k]) ∧ Below u.heap.size u u') ∧
    (∀ u, Calls Try.prog 15 #[.int .i64 n, .int .i64 m] u fun e u' => e = .returned (.tuple #[.int .i64 x, .int .i64 k]) ∧ u = u') :=
  ⟨_, _, fun u => (waysTop_any n m u).mono fun e u' h => ⟨by rw [h.1, Pure.resI_sel], h.2⟩, fun u => (rWays_any n m u).mono fun e u' h => ⟨by rw [h.1, Pure.resI_sel], h.2⟩⟩
theorem alike_check (b lo hi : Int) : ∃ k, (∀ u, Calls Try.prog 22 #[cargoV b lo hi] u fun e u' => e = .returned (.int .i64 k) ∧ Below u.heap.size u u') ∧
    (∀ u, Calls Try.prog 23 #[cargoV b lo hi] u fun e u' => e = .returned (.int .i64 k) ∧ Below u.heap.size u u') :=
  ⟨_, fun u => check_any b lo hi u, fun u => rCheck_any b lo hi u⟩

set_option maxHeartbeats 4000000 in
set_option maxRecDepth 100000 in
theorem tells_walk (b lo hi d o f n m : Int) (w : World) :
    Calls Try.prog 3 #[cargoV b lo hi, .int .i64 d, .agg #[.int .i64 o, .int .i64 f], .int .i64 n, .int .i64 m] w fun e w' => e = .returned (.bool true) ∧ Below w.heap.size w w' := by
  obtain ⟨x1, k1, ha1, ha2⟩ := alike_ways n m
  obtain ⟨x2, y2, k2, hc1, hc2⟩ := alike_chance b lo hi d o f
  obtain ⟨x3, y3, k3, hm1, hm2⟩ := alike_atMost b lo hi d o f
  obtain ⟨x4, y4, k4, hn1, hn2⟩ := alike_mean b lo hi d n
  obtain ⟨k5, hk1, hk2⟩ := alike_check b lo hi
  have HA1 := Lib.hid ha1
  have HA2 := Lib.hid ha2
  have HC1 := Lib.hid hc1
  have HC2 := Lib.hid hc2
  have HM1 := Lib.hid hm1
  have HM2 := Lib.hid hm2
  have HN1 := Lib.hid hn1
  have HN2 := Lib.hid hn2
  have HK1 := Lib.hid hk1
  have HK2 := Lib.hid hk2
  clear ha1 ha2 hc1 hc2 hm1 hm2 hn1 hn2 hk1 hk2
  go_enter Try.func3, Try.ntmps3
  go_wp2_with fail
  obtain ⟨W1, hW1⟩ : ∃ W1, (w.alloc (.cells #[.int .i64 b, .int .i64 lo, .int .i64 hi] 25)).alloc (.cells #[.int .i64 o, .int .i64 f] 27) = W1 := ⟨_, rfl⟩
  have HB1 : Hid (Below w.heap.size w W1) := by rw [← hW1]; exact Lib.hid (((Below.refl _ _).alloc (Nat.le_refl _) _).alloc (by simp) _)
  have HSZ : Hid (W1.heap.size = w.heap.size + 2) := by rw [← hW1]; exact Lib.hid (by simp)
  have e : ∀ j v, (#[Value.int .i64 b, .int .i64 lo, .int .i64 hi])[j]? = some v → W1.cell? ⟨w.heap.size, j, none⟩ = some v := by rw [← hW1]; intro j v h; exact cell_up ((cells_top _ _ _ rfl j).trans h) _
  have g : ∀ j v, (#[Value.int .i64 o, .int .i64 f])[j]? = some v → W1.cell? ⟨w.heap.size + 1, j, none⟩ = some v := by rw [← hW1]; intro j v h; exact (cells_top _ _ _ (by simp) j).trans h
  rw [hW1]
  clear hW1
  have HE := Lib.hid e
  have HG := Lib.hid g
  clear e g
  refine (HA1.out _).mono ?_
  rintro e u1 ⟨rfl, hb⟩
  have HU1 := Lib.hid hb
  clear hb
  go_wp2_with fail
  refine (HA2.out _).mono ?_
  rintro e u2 ⟨rfl, rfl⟩
  have c0 := below_cell HU1.out (HE.out 0 _ rfl)
  have c1 := below_cell HU1.out (HE.out 1 _ rfl)
  have c2 := below_cell HU1.out (HE.out 2 _ rfl)
  have d0 := below_cell HU1.out (HG.out 0 _ rfl)
  have d1 := below_cell HU1.out (HG.out 1 _ rfl)
  have HT0 : Hid (Below w.heap.size w u1) := Lib.hid (HB1.out.trans (HU1.out.mono (by have := HSZ.out; omega)))
  go_wp2_with fail
  refine (HC1.out _).mono ?_
  rintro e v1 ⟨rfl, hb⟩
  have p10 := cells_top v1 #[.int .i64 x2, .int .i64 y2] 34 rfl 0
  have p11 := cells_top v1 #[.int .i64 x2, .int .i64 y2] 34 rfl 1
  replace c0 := cell_up (below_cell hb c0) (.cells #[.int .i64 x2, .int .i64 y2] 34)
  replace c1 := cell_up (below_cell hb c1) (.cells #[.int .i64 x2, .int .i64 y2] 34)
  replace c2 := cell_up (below_cell hb c2) (.cells #[.int .i64 x2, .int .i64 y2] 34)
  replace d0 := cell_up (below_cell hb d0) (.cells #[.int .i64 x2, .int .i64 y2] 34)
  replace d1 := cell_up (below_cell hb d1) (.cells #[.int .i64 x2, .int .i64 y2] 34)
  have HT1 : Hid (Below w.heap.size w (v1.alloc (.cells #[.int .i64 x2, .int .i64 y2] 34))) := Lib.hid ((HT0.out.trans (hb.mono (HT0.out.size))).alloc (by have h1 := HT0.out.size; have h2 := hb.size; omega) _)
  obtain ⟨W2, hW⟩ : ∃ W, v1.alloc (.cells #[.int .i64 x2, .int .i64 y2] 34) = W := ⟨_, rfl⟩
  rw [hW] at c0 c1 c2 d0 d1 p10 p11 HT1
  have HW1 := Lib.hid hb
  clear hb
  go_wp2_with fail
  clear hW
  refine (HC2.out _).mono ?_
  rintro e v2 ⟨rfl, hb⟩
  have p20 := cells_top v2 #[.int .i64 x2, .int .i64 y2] 34 rfl 0
  have p21 := cells_top v2 #[.int .i64 x2, .int .i64 y2] 34 rfl 1
  replace c0 := cell_up (below_cell hb c0) (.cells #[.int .i64 x2, .int .i64 y2] 34)
  replace c1 := cell_up (below_cell hb c1) (.cells #[.int .i64 x2, .int .i64 y2] 34)
  replace c2 := cell_up (below_cell hb c2) (.cells #[.int .i64 x2, .int .i64 y2] 34)
  replace d0 := cell_up (below_cell hb d0) (.cells #[.int .i64 x2, .int .i64 y2] 34)
  replace d1 := cell_up (below_cell hb d1) (.cells #[.int .i64 x2, .int .i64 y2] 34)
  replace p10 := cell_up (below_cell hb p10) (.cells #[.int .i64 x2, .int .i64 y2] 34)
  replace p11 := cell_up (below_cell hb p11) (.cells #[.int .i64 x2, .int .i64 y2] 34)
  have HT2 : Hid (Below w.heap.size w (v2.alloc (.cells #[.int .i64 x2, .int .i64 y2] 34))) := Lib.hid ((HT1.out.trans (hb.mono (HT1.out.size))).alloc (by have h1 := HT1.out.size; have h2 := hb.size; omega) _)
  obtain ⟨W3, hW⟩ : ∃ W, v2.alloc (.cells #[.int .i64 x2, .int .i64 y2] 34) = W := ⟨_, rfl⟩
  rw [hW] at c0 c1 c2 d0 d1 p10 p11 p20 p21 HT2
  have HW2 := Lib.hid hb
  clear hb
  go_wp2_with fail
  clear hW
  refine (HM1.out _).mono ?_
  rintro e v3 ⟨rfl, hb⟩
  have p30 := cells_top v3 #[.int .i64 x3, .int .i64 y3] 34 rfl 0
  have p31 := cells_top v3 #[.int .i64 x3, .int .i64 y3] 34 rfl 1
  replace c0 := cell_up (below_cell hb c0) (.cells #[.int .i64 x3, .int .i64 y3] 34)
  replace c1 := cell_up (below_cell hb c1) (.cells #[.int .i64 x3, .int .i64 y3] 34)
  replace c2 := cell_up (below_cell hb c2) (.cells #[.int .i64 x3, .int .i64 y3] 34)
  replace d0 := cell_up (below_cell hb d0) (.cells #[.int .i64 x3, .int .i64 y3] 34)
  replace d1 := cell_up (below_cell hb d1) (.cells #[.int .i64 x3, .int .i64 y3] 34)
  replace p10 := cell_up (below_cell hb p10) (.cells #[.int .i64 x3, .int .i64 y3] 34)
  replace p11 := cell_up (below_cell hb p11) (.cells #[.int .i64 x3, .int .i64 y3] 34)
  replace p20 := cell_up (below_cell hb p20) (.cells #[.int .i64 x3, .int .i64 y3] 34)
  replace p21 := cell_up (below_cell hb p21) (.cells #[.int .i64 x3, .int .i64 y3] 34)
  have HT3 : Hid (Below w.heap.size w (v3.alloc (.cells #[.int .i64 x3, .int .i64 y3] 34))) := Lib.hid ((HT2.out.trans (hb.mono (HT2.out.size))).alloc (by have h1 := HT2.out.size; have h2 := hb.size; omega) _)
  obtain ⟨W4, hW⟩ : ∃ W, v3.alloc (.cells #[.int .i64 x3, .int .i64 y3] 34) = W := ⟨_, rfl⟩
  rw [hW] at c0 c1 c2 d0 d1 p10 p11 p20 p21 p30 p31 HT3
  have HW3 := Lib.hid hb
  clear hb
  go_wp2_with fail
  clear hW
  refine (HM2.out _).mono ?_
  rintro e v4 ⟨rfl, hb⟩
  have p40 := cells_top v4 #[.int .i64 x3, .int .i64 y3] 34 rfl 0
  have p41 := cells_top v4 #[.int .i64 x3, .int .i64 y3] 34 rfl 1
  replace c0 := cell_up (below_cell hb c0) (.cells #[.int .i64 x3, .int .i64 y3] 34)
  replace c1 := cell_up (below_cell hb c1) (.cells #[.int .i64 x3, .int .i64 y3] 34)
  replace c2 := cell_up (below_cell hb c2) (.cells #[.int .i64 x3, .int .i64 y3] 34)
  replace d0 := cell_up (below_cell hb d0) (.cells #[.int .i64 x3, .int .i64 y3] 34)
  replace d1 := cell_up (below_cell hb d1) (.cells #[.int .i64 x3, .int .i64 y3] 34)
  replace p10 := cell_up (below_cell hb p10) (.cells #[.int .i64 x3, .int .i64 y3] 34)
  replace p11 := cell_up (below_cell hb p11) (.cells #[.int .i64 x3, .int .i64 y3] 34)
  replace p20 := cell_up (below_cell hb p20) (.cells #[.int .i64 x3, .int .i64 y3] 34)
  replace p21 := cell_up (below_cell hb p21) (.cells #[.int .i64 x3, .int .i64 y3] 34)
  replace p30 := cell_up (below_cell hb p30) (.cells #[.int .i64 x3, .int .i64 y3] 34)
  replace p31 := cell_up (below_cell hb p31) (.cells #[.int .i64 x3, .int .i64 y3] 34)
  have HT4 : Hid (Below w.heap.size w (v4.alloc (.cells #[.int .i64 x3, .int .i64 y3] 34))) := Lib.hid ((HT3.out.trans (hb.mono (HT3.out.size))).alloc (by have h1 := HT3.out.size; have h2 := hb.size; omega) _)
  obtain ⟨W5, hW⟩ : ∃ W, v4.alloc (.cells #[.int .i64 x3, .int .i64 y3] 34) = W := ⟨_, rfl⟩
  rw [hW] at c0 c1 c2 d0 d1 p10 p11 p20 p21 p30 p31 p40 p41 HT4
  have HW4 := Lib.hid hb
  clear hb
  go_wp2_with fail
  clear hW
  refine (HN1.out _).mono ?_
  rintro e v5 ⟨rfl, hb⟩
  have p50 := cells_top v5 #[.int .i64 x4, .int .i64 y4] 34 rfl 0
  have p51 := cells_top v5 #[.int .i64 x4, .int .i64 y4] 34 rfl 1
  replace c0 := cell_up (below_cell hb c0) (.cells #[.int .i64 x4, .int .i64 y4] 34)
  replace c1 := cell_up (below_cell hb c1) (.cells #[.int .i64 x4, .int .i64 y4] 34)
  replace c2 := cell_up (below_cell hb c2) (.cells #[.int .i64 x4, .int .i64 y4] 34)
  replace d0 := cell_up (below_cell hb d0) (.cells #[.int .i64 x4, .int .i64 y4] 34)
  replace d1 := cell_up (below_cell hb d1) (.cells #[.int .i64 x4, .int .i64 y4] 34)
  replace p10 := cell_up (below_cell hb p10) (.cells #[.int .i64 x4, .int .i64 y4] 34)
  replace p11 := cell_up (below_cell hb p11) (.cells #[.int .i64 x4, .int .i64 y4] 34)
  replace p20 := cell_up (below_cell hb p20) (.cells #[.int .i64 x4, .int .i64 y4] 34)
  replace p21 := cell_up (below_cell hb p21) (.cells #[.int .i64 x4, .int .i64 y4] 34)
  replace p30 := cell_up (below_cell hb p30) (.cells #[.int .i64 x4, .int .i64 y4] 34)
  replace p31 := cell_up (below_cell hb p31) (.cells #[.int .i64 x4, .int .i64 y4] 34)
  replace p40 := cell_up (below_cell hb p40) (.cells #[.int .i64 x4, .int .i64 y4] 34)
  replace p41 := cell_up (below_cell hb p41) (.cells #[.int .i64 x4, .int .i64 y4] 34)
  have HT5 : Hid (Below w.heap.size w (v5.alloc (.cells #[.int .i64 x4, .int .i64 y4] 34))) := Lib.hid ((HT4.out.trans (hb.mono (HT4.out.size))).alloc (by have h1 := HT4.out.size; have h2 := hb.size; omega) _)
  obtain ⟨W6, hW⟩ : ∃ W, v5.alloc (.cells #[.int .i64 x4, .int .i64 y4] 34) = W := ⟨_, rfl⟩
  rw [hW] at c0 c1 c2 d0 d1 p10 p11 p20 p21 p30 p31 p40 p41 p50 p51 HT5
  have HW5 := Lib.hid hb
  clear hb
  go_wp2_with fail
  clear hW
  refine (HN2.out _).mono ?_
  rintro e v6 ⟨rfl, hb⟩
  have p60 := cells_top v6 #[.int .i64 x4, .int .i64 y4] 34 rfl 0
  have p61 := cells_top v6 #[.int .i64 x4, .int .i64 y4] 34 rfl 1
  replace c0 := cell_up (below_cell hb c0) (.cells #[.int .i64 x4, .int .i64 y4] 34)
  replace c1 := cell_up (below_cell hb c1) (.cells #[.int .i64 x4, .int .i64 y4] 34)
  replace c2 := cell_up (below_cell hb c2) (.cells #[.int .i64 x4, .int .i64 y4] 34)
  replace d0 := cell_up (below_cell hb d0) (.cells #[.int .i64 x4, .int .i64 y4] 34)
  replace d1 := cell_up (below_cell hb d1) (.cells #[.int .i64 x4, .int .i64 y4] 34)
  replace p10 := cell_up (below_cell hb p10) (.cells #[.int .i64 x4, .int .i64 y4] 34)
  replace p11 := cell_up (below_cell hb p11) (.cells #[.int .i64 x4, .int .i64 y4] 34)
  replace p20 := cell_up (below_cell hb p20) (.cells #[.int .i64 x4, .int .i64 y4] 34)
  replace p21 := cell_up (below_cell hb p21) (.cells #[.int .i64 x4, .int .i64 y4] 34)
  replace p30 := cell_up (below_cell hb p30) (.cells #[.int .i64 x4, .int .i64 y4] 34)
  replace p31 := cell_up (below_cell hb p31) (.cells #[.int .i64 x4, .int .i64 y4] 34)
  replace p40 := cell_up (below_cell hb p40) (.cells #[.int .i64 x4, .int .i64 y4] 34)
  replace p41 := cell_up (below_cell hb p41) (.cells #[.int .i64 x4, .int .i64 y4] 34)
  replace p50 := cell_up (below_cell hb p50) (.cells #[.int .i64 x4, .int .i64 y4] 34)
  replace p51 := cell_up (below_cell hb p51) (.cells #[.int .i64 x4, .int .i64 y4] 34)
  have HT6 : Hid (Below w.heap.size w (v6.alloc (.cells #[.int .i64 x4, .int .i64 y4] 34))) := Lib.hid ((HT5.out.trans (hb.mono (HT5.out.size))).alloc (by have h1 := HT5.out.size; have h2 := hb.size; omega) _)
  obtain ⟨W7, hW⟩ : ∃ W, v6.alloc (.cells #[.int .i64 x4, .int .i64 y4] 34) = W := ⟨_, rfl⟩
  rw [hW] at c0 c1 c2 d0 d1 p10 p11 p20 p21 p30 p31 p40 p41 p50 p51 p60 p61 HT6
  have HW6 := Lib.hid hb
  clear hb
  go_wp2_with fail
  clear hW
  have zc0 := among_below c0
  have zc1 := among_below c1
  have zc2 := among_below c2
  have zd0 := among_below d0
  have zd1 := among_below d1
  have zp10 := among_below p10
  have zp11 := among_below p11
  have zp20 := among_below p20
  have zp21 := among_below p21
  have zp30 := among_below p30
  have zp31 := among_below p31
  have zp40 := among_below p40
  have zp41 := among_below p41
  have zp50 := among_below p50
  have zp51 := among_below p51
  have zp60 := among_below p60
  have zp61 := among_below p61
  clear c0 c1 c2 d0 d1 p10 p11 p20 p21 p30 p31 p40 p41 p50 p51 p60 p61
  have HD1 : Hid (∀ x : Among (Below W7.heap.size W7), Calls Try.prog 22 #[cargoV b lo hi] x.val fun e w' => e = .returned (.int .i64 k5) ∧ ∃ y : Among (Below W7.heap.size W7), w' = y.val) :=
    Lib.hid (fun x => calls_class ((HK1.out x.val).mono fun e w' h => ⟨h.1, x.ok.trans (h.2.mono x.ok.size)⟩))
  have HD2 : Hid (∀ x : Among (Below W7.heap.size W7), Calls Try.prog 23 #[cargoV b lo hi] x.val fun e w' => e = .returned (.int .i64 k5) ∧ ∃ y : Among (Below W7.heap.size W7), w' = y.val) :=
    Lib.hid (fun x => calls_class ((HK2.out x.val).mono fun e w' h => ⟨h.1, x.ok.trans (h.2.mono x.ok.size)⟩))
  have HSt : Hid (Below W7.heap.size W7 W7.drew) := Lib.hid (Below.refl _ _).drew
  have hne : Nonempty (Among (Below W7.heap.size W7)) := ⟨⟨_, HSt.out⟩⟩
  refine wp_region_class (Below W7.heap.size W7) (by kernel_rfl) (by kernel_rfl) HSt.out ?_
  repeat (go_big_quiet_step ((first | (go_at_call 22; exact HD1.out _) | (go_at_call 23; exact HD2.out _))))
  refine wpQuiet_nil ?_
  intro w8 hx
  have hB8 := among_out hx
  clear hx
  have HB8 := Lib.hid hB8
  clear hB8 hne
  go_wp2_with fail
  go_ret
  exact ⟨rfl, HT6.out.trans (HB8.out.mono HT6.out.size)⟩

end Go.Proofs.Yteckpbghmhelpaa
