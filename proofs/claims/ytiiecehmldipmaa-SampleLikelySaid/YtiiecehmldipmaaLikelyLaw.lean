/-
  SampleLikely: the walk of the law.
-/
import Derived.Test.YtiiecehmldipmaaAlive
import Derived.Test.YtiiecehmldipmaaOver
import Derived.Test.YtiiecehmldipmaaRAble
import Derived.Test.YtiiecehmldipmaaLikelyMath
namespace Go.Proofs.Ytiiecehmldipmaa
open Go.RowKit Go.Shelf

theorem row_below {B : Nat} {e : TypeId} {k : Nat} {v : Value} {n : Nat} {xs : List Value} {w w' : World} (h : w.ownsRow B e k v n xs) (hb : Below w.heap.size w w') : w'.ownsRow B e k v n xs :=
  h.kept (row := none) ⟨hb.os, hb.tape, hb.output, hb.size, fun j hj _ => hb.block j hj⟩ (by cases hv : v.ownBlock <;> simp)
theorem chanceV {b lo hi d o f pn pd : Int} (hc : Pure.okCargo b lo hi = true) (d0 : lo ≤ d) (d1 : d ≤ hi) (o0 : 0 ≤ o) (o1 : o ≤ b) (f0 : 0 ≤ f) (f1 : f ≤ o) (h : Hid (partV (Pure.ways b d o f) (Pure.sets b o) = .agg #[.int .i64 pn, .int .i64 pd])) (w : World) :
    Calls Try.prog 27 #[cargoV b lo hi, .int .i64 d, .agg #[.int .i64 o, .int .i64 f]] w fun e w' => e = .returned (.tuple #[.agg #[.int .i64 pn, .int .i64 pd], .int .i64 0]) ∧ Below w.heap.size w w' :=
  (chance_any b lo hi d o f w).mono fun _ _ g => ⟨g.1.trans (by
    have h2 : Pure.okDraw b o f = true := by unfold Pure.okDraw; rw [decide_eq_true_eq]; omega
    have h3 : Pure.okIn lo hi d = true := by unfold Pure.okIn; rw [decide_eq_true_eq]; omega
    rw [Pure.res2_zero (by rw [hc, h2, h3]; rfl), h.out]), g.2⟩
/-- What Can answers, given by its values. -/
theorem canV {b lo hi o f sl sh ec : Int} (h1 : Hid (Pure.pick (Pure.canE b lo hi o f) (Pure.fst b (Pure.nums b.toNat lo hi o f)) = sl)) (h2 : Hid (Pure.pick (Pure.canE b lo hi o f) (Pure.lst (Pure.nums b.toNat lo hi o f)) = sh)) (h3 : Hid (Pure.canE b lo hi o f = ec)) (w : World) :
    Calls Try.prog 24 #[cargoV b lo hi, .agg #[.int .i64 o, .int .i64 f]] w fun e w' => e = .returned (.tuple #[.agg #[.int .i64 sl, .int .i64 sh], .int .i64 ec]) ∧ Below w.heap.size w w' :=
  (can_top b lo hi o f w).mono fun _ _ g => ⟨g.1.trans (by rw [h1.out, h2.out, h3.out]), g.2⟩
/-- What Likely answers. -/
theorem likelyV {b lo hi o f ec : Int} {L : List Int} (h1 : Hid (Pure.canE b lo hi o f = ec)) (h2 : Hid (Pure.likelyL b lo hi o f = L)) (w : World) :
    Calls Try.prog 39 #[cargoV b lo hi, .agg #[.int .i64 o, .int .i64 f]] w fun e w' => ∃ a cap, e = .returned (.tuple #[.slice a L.length cap, .int .i64 ec]) ∧ IntsAt w' (.slice a L.length cap) L ∧ Below w.heap.size w w' :=
  (likely_top b lo hi o f w).mono fun _ _ g => by
    obtain ⟨v, h3, h4, h5⟩ := g
    have h6 := IntsAt.of_row h4
    rw [h1.out] at h3
    rw [h2.out] at h6
    have h7 := h6
    obtain ⟨a, cap, rfl, _⟩ := h6
    exact ⟨a, cap, h3, h7, h5⟩

set_option maxHeartbeats 4000000 in
set_option maxRecDepth 100000 in
/-- A cargo that is not valid. -/
theorem likely_bad (b lo hi o f : Int) (hc : Hid (Pure.okCargo b lo hi = false)) (w : World) :
    Calls Try.prog 9 #[cargoV b lo hi, .agg #[.int .i64 o, .int .i64 f]] w fun e w' => e = .returned (.bool true) ∧ Below w.heap.size w w' := by
  go_enter Try.func9, Try.ntmps9
  go_wp2_with fail
  refine (alive_any _).mono ?_
  rintro e w1 ⟨rfl, hb1⟩
  have hcc := heap_lift (heap_up (heap_top w (.cells #[.int .i64 b, .int .i64 lo, .int .i64 hi] 25) rfl) (.cells #[.int .i64 o, .int .i64 f] 57)) hb1
  have hdd := heap_lift (heap_top (w.alloc (.cells #[.int .i64 b, .int .i64 lo, .int .i64 hi] 25)) (.cells #[.int .i64 o, .int .i64 f] 57) rfl) hb1
  have HC := Lib.hid hcc
  have HD := Lib.hid hdd
  have HB := Lib.hid (below_then (((Below.refl _ _).alloc (Nat.le_refl _) (.cells #[.int .i64 b, .int .i64 lo, .int .i64 hi] 25)).alloc (by simp) (.cells #[.int .i64 o, .int .i64 f] 57)) hb1)
  obtain ⟨Bc, hBc⟩ : ∃ Bc, w.heap.size = Bc := ⟨_, rfl⟩
  have hBd : (w.alloc (.cells #[.int .i64 b, .int .i64 lo, .int .i64 hi] 25)).heap.size = Bc + 1 := by rw [← hBc]; simp
  rw [hBd] at HD
  rw [hBc] at HC
  have c0 := heap_cell HC.out (j := 0) rfl
  have c1 := heap_cell HC.out (j := 1) rfl
  have c2 := heap_cell HC.out (j := 2) rfl
  have g0 := heap_cell HD.out (j := 0) rfl
  have g1 := heap_cell HD.out (j := 1) rfl
  clear hcc hdd hb1 hBd
  go_wp2_with fail
  clear hBc
  refine (rCargo_any b lo hi _).mono ?_
  rw [hc.out]
  rintro e w2 ⟨rfl, rfl⟩
  obtain ⟨w2, hw2⟩ : ∃ w2, w1.alloc (.cells #[.int .i64 b, .int .i64 lo, .int .i64 hi] 25) = w2 := ⟨_, rfl⟩
  replace HC := Lib.hid (heap_up HC.out (.cells #[.int .i64 b, .int .i64 lo, .int .i64 hi] 25))
  replace HD := Lib.hid (heap_up HD.out (.cells #[.int .i64 b, .int .i64 lo, .int .i64 hi] 25))
  replace HB := Lib.hid (HB.out.alloc HB.out.size (.cells #[.int .i64 b, .int .i64 lo, .int .i64 hi] 25))
  rw [hw2] at HC HD HB
  rw [hw2]
  clear c0 c1 c2 g0 g1 hw2
  clear HC HD
  go_wp2_with fail
  go_ret
  exact ⟨rfl, HB.out⟩

set_option maxHeartbeats 4000000 in
set_option maxRecDepth 100000 in
/-- A draw that is not valid. -/
theorem likely_off (b lo hi o f : Int) (hc : Hid (Pure.okCargo b lo hi = true)) (hdr : Hid (Pure.okDraw b o f = false)) (w : World) :
    Calls Try.prog 9 #[cargoV b lo hi, .agg #[.int .i64 o, .int .i64 f]] w fun e w' => e = .returned (.bool true) ∧ Below w.heap.size w w' := by
  go_enter Try.func9, Try.ntmps9
  go_wp2_with fail
  refine (alive_any _).mono ?_
  rintro e w1 ⟨rfl, hb1⟩
  have hcc := heap_lift (heap_up (heap_top w (.cells #[.int .i64 b, .int .i64 lo, .int .i64 hi] 25) rfl) (.cells #[.int .i64 o, .int .i64 f] 57)) hb1
  have hdd := heap_lift (heap_top (w.alloc (.cells #[.int .i64 b, .int .i64 lo, .int .i64 hi] 25)) (.cells #[.int .i64 o, .int .i64 f] 57) rfl) hb1
  have HC := Lib.hid hcc
  have HD := Lib.hid hdd
  have HB := Lib.hid (below_then (((Below.refl _ _).alloc (Nat.le_refl _) (.cells #[.int .i64 b, .int .i64 lo, .int .i64 hi] 25)).alloc (by simp) (.cells #[.int .i64 o, .int .i64 f] 57)) hb1)
  obtain ⟨Bc, hBc⟩ : ∃ Bc, w.heap.size = Bc := ⟨_, rfl⟩
  have hBd : (w.alloc (.cells #[.int .i64 b, .int .i64 lo, .int .i64 hi] 25)).heap.size = Bc + 1 := by rw [← hBc]; simp
  rw [hBd] at HD
  rw [hBc] at HC
  have c0 := heap_cell HC.out (j := 0) rfl
  have c1 := heap_cell HC.out (j := 1) rfl
  have c2 := heap_cell HC.out (j := 2) rfl
  have g0 := heap_cell HD.out (j := 0) rfl
  have g1 := heap_cell HD.out (j := 1) rfl
  clear hcc hdd hb1 hBd
  go_wp2_with fail
  clear hBc
  refine (rCargo_any b lo hi _).mono ?_
  rw [hc.out]
  rintro e w2 ⟨rfl, rfl⟩
  obtain ⟨w2, hw2⟩ : ∃ w2, w1.alloc (.cells #[.int .i64 b, .int .i64 lo, .int .i64 hi] 25) = w2 := ⟨_, rfl⟩
  replace HC := Lib.hid (heap_up HC.out (.cells #[.int .i64 b, .int .i64 lo, .int .i64 hi] 25))
  replace HD := Lib.hid (heap_up HD.out (.cells #[.int .i64 b, .int .i64 lo, .int .i64 hi] 25))
  replace HB := Lib.hid (HB.out.alloc HB.out.size (.cells #[.int .i64 b, .int .i64 lo, .int .i64 hi] 25))
  rw [hw2] at HC HD HB
  rw [hw2]
  clear c0 c1 c2 g0 g1 hw2
  have c0 := heap_cell HC.out (j := 0) rfl
  have c1 := heap_cell HC.out (j := 1) rfl
  have c2 := heap_cell HC.out (j := 2) rfl
  have g0 := heap_cell HD.out (j := 0) rfl
  have g1 := heap_cell HD.out (j := 1) rfl
  go_wp2_with fail
  refine (rDraw_any b lo hi o f _).mono ?_
  rw [hdr.out]
  rintro e w3 ⟨rfl, rfl⟩
  obtain ⟨w3, hw3⟩ : ∃ w3, (w2.alloc (.cells #[.int .i64 b, .int .i64 lo, .int .i64 hi] 25)).alloc (.cells #[.int .i64 o, .int .i64 f] 57) = w3 := ⟨_, rfl⟩
  have hb3 : Below w2.heap.size w2 w3 := by rw [← hw3]; exact ((Below.refl _ _).alloc (Nat.le_refl _) _).alloc (by simp) _
  replace HC := Lib.hid (heap_lift HC.out hb3)
  replace HD := Lib.hid (heap_lift HD.out hb3)
  replace HB := Lib.hid (HB.out.trans (hb3.mono HB.out.size))
  rw [hw3]
  clear hb3 hw3 c0 c1 c2 g0 g1
  clear HC HD
  go_wp2_with fail
  go_ret
  exact ⟨rfl, HB.out⟩

set_option maxHeartbeats 8000000 in
set_option maxRecDepth 100000 in
/-- No number can be. -/
theorem likely_no (b lo hi o f sl sh : Int) (hc : Hid (Pure.okCargo b lo hi = true)) (hdr : Hid (Pure.okDraw b o f = true)) (hec : Hid (Pure.canE b lo hi o f = 8)) (hL : Hid (Pure.likelyL b lo hi o f = []))
    (hsl : Hid (Pure.pick (Pure.canE b lo hi o f) (Pure.fst b (Pure.nums b.toNat lo hi o f)) = sl)) (hsh : Hid (Pure.pick (Pure.canE b lo hi o f) (Pure.lst (Pure.nums b.toNat lo hi o f)) = sh)) (w : World) :
    Calls Try.prog 9 #[cargoV b lo hi, .agg #[.int .i64 o, .int .i64 f]] w fun e w' => e = .returned (.bool true) ∧ Below w.heap.size w w' := by
  go_enter Try.func9, Try.ntmps9
  go_wp2_with fail
  refine (alive_any _).mono ?_
  rintro e w1 ⟨rfl, hb1⟩
  have hcc := heap_lift (heap_up (heap_top w (.cells #[.int .i64 b, .int .i64 lo, .int .i64 hi] 25) rfl) (.cells #[.int .i64 o, .int .i64 f] 57)) hb1
  have hdd := heap_lift (heap_top (w.alloc (.cells #[.int .i64 b, .int .i64 lo, .int .i64 hi] 25)) (.cells #[.int .i64 o, .int .i64 f] 57) rfl) hb1
  have HC := Lib.hid hcc
  have HD := Lib.hid hdd
  have HB := Lib.hid (below_then (((Below.refl _ _).alloc (Nat.le_refl _) (.cells #[.int .i64 b, .int .i64 lo, .int .i64 hi] 25)).alloc (by simp) (.cells #[.int .i64 o, .int .i64 f] 57)) hb1)
  obtain ⟨Bc, hBc⟩ : ∃ Bc, w.heap.size = Bc := ⟨_, rfl⟩
  have hBd : (w.alloc (.cells #[.int .i64 b, .int .i64 lo, .int .i64 hi] 25)).heap.size = Bc + 1 := by rw [← hBc]; simp
  rw [hBd] at HD
  rw [hBc] at HC
  have c0 := heap_cell HC.out (j := 0) rfl
  have c1 := heap_cell HC.out (j := 1) rfl
  have c2 := heap_cell HC.out (j := 2) rfl
  have g0 := heap_cell HD.out (j := 0) rfl
  have g1 := heap_cell HD.out (j := 1) rfl
  clear hcc hdd hb1 hBd
  go_wp2_with fail
  clear hBc
  refine (rCargo_any b lo hi _).mono ?_
  rw [hc.out]
  rintro e w2 ⟨rfl, rfl⟩
  obtain ⟨w2, hw2⟩ : ∃ w2, w1.alloc (.cells #[.int .i64 b, .int .i64 lo, .int .i64 hi] 25) = w2 := ⟨_, rfl⟩
  replace HC := Lib.hid (heap_up HC.out (.cells #[.int .i64 b, .int .i64 lo, .int .i64 hi] 25))
  replace HD := Lib.hid (heap_up HD.out (.cells #[.int .i64 b, .int .i64 lo, .int .i64 hi] 25))
  replace HB := Lib.hid (HB.out.alloc HB.out.size (.cells #[.int .i64 b, .int .i64 lo, .int .i64 hi] 25))
  rw [hw2] at HC HD HB
  rw [hw2]
  clear c0 c1 c2 g0 g1 hw2
  have c0 := heap_cell HC.out (j := 0) rfl
  have c1 := heap_cell HC.out (j := 1) rfl
  have c2 := heap_cell HC.out (j := 2) rfl
  have g0 := heap_cell HD.out (j := 0) rfl
  have g1 := heap_cell HD.out (j := 1) rfl
  go_wp2_with fail
  refine (rDraw_any b lo hi o f _).mono ?_
  rw [hdr.out]
  rintro e w3 ⟨rfl, rfl⟩
  obtain ⟨w3, hw3⟩ : ∃ w3, (w2.alloc (.cells #[.int .i64 b, .int .i64 lo, .int .i64 hi] 25)).alloc (.cells #[.int .i64 o, .int .i64 f] 57) = w3 := ⟨_, rfl⟩
  have hb3 : Below w2.heap.size w2 w3 := by rw [← hw3]; exact ((Below.refl _ _).alloc (Nat.le_refl _) _).alloc (by simp) _
  replace HC := Lib.hid (heap_lift HC.out hb3)
  replace HD := Lib.hid (heap_lift HD.out hb3)
  replace HB := Lib.hid (HB.out.trans (hb3.mono HB.out.size))
  rw [hw3]
  clear hb3 hw3 c0 c1 c2 g0 g1
  have c0 := heap_cell HC.out (j := 0) rfl
  have c1 := heap_cell HC.out (j := 1) rfl
  have c2 := heap_cell HC.out (j := 2) rfl
  have g0 := heap_cell HD.out (j := 0) rfl
  have g1 := heap_cell HD.out (j := 1) rfl
  go_wp2_with fail
  refine (likelyV hec hL _).mono ?_
  rintro e v1 ⟨a, cap, rfl, hi1, hb1⟩
  replace HC := Lib.hid (heap_lift HC.out hb1)
  replace HD := Lib.hid (heap_lift HD.out hb1)
  replace HB := Lib.hid (HB.out.trans (hb1.mono HB.out.size))
  have HI := Lib.hid hi1
  clear hi1 hb1 c0 c1 c2 g0 g1
  have c0 := heap_cell HC.out (j := 0) rfl
  have c1 := heap_cell HC.out (j := 1) rfl
  have c2 := heap_cell HC.out (j := 2) rfl
  have g0 := heap_cell HD.out (j := 0) rfl
  have g1 := heap_cell HD.out (j := 1) rfl
  go_wp2_with fail
  refine (canV hsl hsh hec _).mono ?_
  rintro e v2 ⟨rfl, hb1⟩
  have hb2 := hb1.alloc hb1.size (.cells #[.int .i64 sl, .int .i64 sh] 23)
  replace HC := Lib.hid (heap_lift HC.out hb2)
  replace HD := Lib.hid (heap_lift HD.out hb2)
  replace HI := Lib.hid (IntsAt.below HI.out hb2)
  replace HB := Lib.hid (HB.out.trans (hb2.mono HB.out.size))
  obtain ⟨v3, hv3⟩ : ∃ v3, v2.alloc (.cells #[.int .i64 sl, .int .i64 sh] 23) = v3 := ⟨_, rfl⟩
  rw [hv3] at HC HD HI HB
  clear hb1 hb2 c0 c1 c2 g0 g1
  clear HC HD HI
  go_wp2_with fail
  go_ret
  exact ⟨rfl, HB.out⟩

set_option maxHeartbeats 16000000 in
set_option maxRecDepth 100000 in
/-- Some number can be. -/
theorem likely_yes (b lo hi o f sl sh S : Int) (vf : Int → Int) (L : List Int) (hc : Hid (Pure.okCargo b lo hi = true)) (hdr : Hid (Pure.okDraw b o f = true)) (b2 : b ≤ 36) (l0 : 0 ≤ lo) (l1 : lo ≤ hi) (h36 : hi ≤ 36) (hbb : hi ≤ b) (o0 : 0 ≤ o) (o1 : o ≤ b) (f0 : 0 ≤ f) (f1 : f ≤ o)
    (hS : Hid (Pure.sets b o = S)) (s0 : 0 < S) (s1 : S ≤ 68719476736) (hec : Hid (Pure.canE b lo hi o f = 0)) (hL : Hid (Pure.likelyL b lo hi o f = L)) (hvf : Hid (∀ x, vf x = Pure.ways b x o f)) (hlen : Hid (L.length ≤ 1000)) (hfin : Hid (∀ k : Nat, lo + (k : Int) = hi + 1 → Pure.bestP vf (Pure.run lo k) = L))
    (hsl : Hid (Pure.pick (Pure.canE b lo hi o f) (Pure.fst b (Pure.nums b.toNat lo hi o f)) = sl)) (hsh : Hid (Pure.pick (Pure.canE b lo hi o f) (Pure.lst (Pure.nums b.toNat lo hi o f)) = sh)) (w : World) :
    Calls Try.prog 9 #[cargoV b lo hi, .agg #[.int .i64 o, .int .i64 f]] w fun e w' => e = .returned (.bool true) ∧ Below w.heap.size w w' := by
  obtain ⟨i0, hi0, hz0, hz1, hz2⟩ := info_parts infoInt
  go_enter Try.func9, Try.ntmps9
  go_wp2_with fail
  refine (alive_any _).mono ?_
  rintro e w1 ⟨rfl, hb1⟩
  have hcc := heap_lift (heap_up (heap_top w (.cells #[.int .i64 b, .int .i64 lo, .int .i64 hi] 25) rfl) (.cells #[.int .i64 o, .int .i64 f] 57)) hb1
  have hdd := heap_lift (heap_top (w.alloc (.cells #[.int .i64 b, .int .i64 lo, .int .i64 hi] 25)) (.cells #[.int .i64 o, .int .i64 f] 57) rfl) hb1
  have HC := Lib.hid hcc
  have HD := Lib.hid hdd
  have HB := Lib.hid (below_then (((Below.refl _ _).alloc (Nat.le_refl _) (.cells #[.int .i64 b, .int .i64 lo, .int .i64 hi] 25)).alloc (by simp) (.cells #[.int .i64 o, .int .i64 f] 57)) hb1)
  obtain ⟨Bc, hBc⟩ : ∃ Bc, w.heap.size = Bc := ⟨_, rfl⟩
  have hBd : (w.alloc (.cells #[.int .i64 b, .int .i64 lo, .int .i64 hi] 25)).heap.size = Bc + 1 := by rw [← hBc]; simp
  rw [hBd] at HD
  rw [hBc] at HC
  have c0 := heap_cell HC.out (j := 0) rfl
  have c1 := heap_cell HC.out (j := 1) rfl
  have c2 := heap_cell HC.out (j := 2) rfl
  have g0 := heap_cell HD.out (j := 0) rfl
  have g1 := heap_cell HD.out (j := 1) rfl
  clear hcc hdd hb1 hBd
  go_wp2_with fail
  clear hBc
  refine (rCargo_any b lo hi _).mono ?_
  rw [hc.out]
  rintro e w2 ⟨rfl, rfl⟩
  obtain ⟨w2, hw2⟩ : ∃ w2, w1.alloc (.cells #[.int .i64 b, .int .i64 lo, .int .i64 hi] 25) = w2 := ⟨_, rfl⟩
  replace HC := Lib.hid (heap_up HC.out (.cells #[.int .i64 b, .int .i64 lo, .int .i64 hi] 25))
  replace HD := Lib.hid (heap_up HD.out (.cells #[.int .i64 b, .int .i64 lo, .int .i64 hi] 25))
  replace HB := Lib.hid (HB.out.alloc HB.out.size (.cells #[.int .i64 b, .int .i64 lo, .int .i64 hi] 25))
  rw [hw2] at HC HD HB
  rw [hw2]
  clear c0 c1 c2 g0 g1 hw2
  have c0 := heap_cell HC.out (j := 0) rfl
  have c1 := heap_cell HC.out (j := 1) rfl
  have c2 := heap_cell HC.out (j := 2) rfl
  have g0 := heap_cell HD.out (j := 0) rfl
  have g1 := heap_cell HD.out (j := 1) rfl
  go_wp2_with fail
  refine (rDraw_any b lo hi o f _).mono ?_
  rw [hdr.out]
  rintro e w3 ⟨rfl, rfl⟩
  obtain ⟨w3, hw3⟩ : ∃ w3, (w2.alloc (.cells #[.int .i64 b, .int .i64 lo, .int .i64 hi] 25)).alloc (.cells #[.int .i64 o, .int .i64 f] 57) = w3 := ⟨_, rfl⟩
  have hb3 : Below w2.heap.size w2 w3 := by rw [← hw3]; exact ((Below.refl _ _).alloc (Nat.le_refl _) _).alloc (by simp) _
  replace HC := Lib.hid (heap_lift HC.out hb3)
  replace HD := Lib.hid (heap_lift HD.out hb3)
  replace HB := Lib.hid (HB.out.trans (hb3.mono HB.out.size))
  rw [hw3]
  clear hb3 hw3 c0 c1 c2 g0 g1
  have c0 := heap_cell HC.out (j := 0) rfl
  have c1 := heap_cell HC.out (j := 1) rfl
  have c2 := heap_cell HC.out (j := 2) rfl
  have g0 := heap_cell HD.out (j := 0) rfl
  have g1 := heap_cell HD.out (j := 1) rfl
  go_wp2_with fail
  refine (likelyV hec hL _).mono ?_
  rintro e v1 ⟨a, cap, rfl, hi1, hb1⟩
  replace HC := Lib.hid (heap_lift HC.out hb1)
  replace HD := Lib.hid (heap_lift HD.out hb1)
  replace HB := Lib.hid (HB.out.trans (hb1.mono HB.out.size))
  have HI := Lib.hid hi1
  clear hi1 hb1 c0 c1 c2 g0 g1
  have c0 := heap_cell HC.out (j := 0) rfl
  have c1 := heap_cell HC.out (j := 1) rfl
  have c2 := heap_cell HC.out (j := 2) rfl
  have g0 := heap_cell HD.out (j := 0) rfl
  have g1 := heap_cell HD.out (j := 1) rfl
  go_wp2_with fail
  refine (canV hsl hsh hec _).mono ?_
  rintro e v2 ⟨rfl, hb1⟩
  have hb2 := hb1.alloc hb1.size (.cells #[.int .i64 sl, .int .i64 sh] 23)
  replace HC := Lib.hid (heap_lift HC.out hb2)
  replace HD := Lib.hid (heap_lift HD.out hb2)
  replace HI := Lib.hid (IntsAt.below HI.out hb2)
  replace HB := Lib.hid (HB.out.trans (hb2.mono HB.out.size))
  obtain ⟨v3, hv3⟩ : ∃ v3, v2.alloc (.cells #[.int .i64 sl, .int .i64 sh] 23) = v3 := ⟨_, rfl⟩
  rw [hv3] at HC HD HI HB
  clear hb1 hb2 c0 c1 c2 g0 g1
  have c0 := heap_cell HC.out (j := 0) rfl
  have c1 := heap_cell HC.out (j := 1) rfl
  have c2 := heap_cell HC.out (j := 2) rfl
  have g0 := heap_cell HD.out (j := 0) rfl
  have g1 := heap_cell HD.out (j := 1) rfl
  go_wp2_with fail
  refine (choose_any b o b2 _).mono ?_
  rw [hS.out]
  rintro e w' ⟨rfl, rfl⟩
  clear hv3
  go_wp2_with fail
  clear c0 c1 c2 g0 g1
  go_loopw [11, 12, 13] (fun t v i wr => ∃ k : Nat, lo + k ≤ hi + 1 ∧ i = .int .i64 (lo + k) ∧ t = .int .i64 (Pure.most vf (Pure.run lo k)) ∧ wr.ownsRow v3.heap.size 3 1 v (Pure.bestP vf (Pure.run lo k)).length ((Pure.bestP vf (Pure.run lo k)).map (Value.int .i64)) ∧ Below v3.heap.size v3 wr) (fun _ _ i _ => (hi + 1 - intOf i).toNat)
  case atStart => exact ⟨0, by omega, by simp, rfl, World.ownsRow_nil _ _ _ _, Below.refl _ _⟩
  case round =>
    obtain ⟨k, hk, rfl, rfl, hown, hbr⟩ := hrel
    have HBR := Lib.hid hbr
    replace HC := Lib.hid (heap_lift HC.out hbr)
    replace HD := Lib.hid (heap_lift HD.out hbr)
    replace HI := Lib.hid (IntsAt.below HI.out hbr)
    obtain ⟨n, hn⟩ : ∃ n, lo + (k : Int) = n := ⟨_, rfl⟩
    have n0 : lo ≤ n := by omega
    have n1 : n ≤ hi + 1 := by omega
    have hk37 : k ≤ 37 := by omega
    have HNS : Hid (lo + ((k + 1 : Nat) : Int) = n + 1) := Lib.hid (by rw [← hn]; omega)
    have HRUN : Hid (Pure.run lo (k + 1) = Pure.run lo k ++ [n]) := Lib.hid (by rw [Pure.run_succ, hn])
    have HLEN : Hid ((Pure.bestP vf (Pure.run lo k)).length ≤ 37) := Lib.hid (Nat.le_trans (Pure.bestP_length _ _) (by rw [Pure.run_length]; exact hk37))
    have HFK : Hid (n = hi + 1 → Pure.bestP vf (Pure.run lo k) = L) := Lib.hid (fun h => hfin.out k (by rw [hn]; exact h))
    have HMN : Hid (0 ≤ Pure.most vf (Pure.run lo k)) := Lib.hid (Pure.most_nonneg _ _)
    rw [hn]
    obtain ⟨R, hR⟩ : ∃ R, Pure.run lo k = R := ⟨_, rfl⟩
    rw [hR] at hown HRUN HLEN HFK HMN
    rw [hR]
    have HOWN := Lib.hid hown
    clear hn hbr hown hk hR
    by_cases hk1 : n ≤ hi
    · clear HFK
      obtain ⟨m, hm⟩ : ∃ m, vf n = m := ⟨_, rfl⟩
      have hmw : Pure.ways b n o f = m := by rw [← hm, hvf.out]
      have m0 : 0 ≤ m := by rw [← hmw]; exact Pure.ways_nonneg _ _ _ _
      have m1 : m ≤ S := by rw [← hmw, ← hS.out]; exact Pure.ways_le_all (by omega) (by omega) o0 f0 f1
      obtain ⟨mo, hmo⟩ : ∃ mo, Pure.most vf R = mo := ⟨_, rfl⟩
      have mo0 : 0 ≤ mo := by rw [← hmo]; exact HMN.out
      have HV : Hid (partV (Pure.ways b n o f) (Pure.sets b o) = .agg #[.int .i64 (m / Pure.gcd m S), .int .i64 (S / Pure.gcd m S)]) := Lib.hid (by rw [hmw, hS.out])
      have HV2 : Hid (partV m S = .agg #[.int .i64 (m / Pure.gcd m S), .int .i64 (S / Pure.gcd m S)]) := Lib.hid rfl
      obtain ⟨pn, hpn⟩ : ∃ pn, m / Pure.gcd m S = pn := ⟨_, rfl⟩
      obtain ⟨pd, hpd⟩ : ∃ pd, S / Pure.gcd m S = pd := ⟨_, rfl⟩
      rw [hpn, hpd] at HV HV2
      have HM := Lib.hid hm
      have HMO := Lib.hid hmo
      rw [hmo]
      clear hm hmw hmo hpn hpd
      have c0 := heap_cell HC.out (j := 0) rfl
      have c1 := heap_cell HC.out (j := 1) rfl
      have c2 := heap_cell HC.out (j := 2) rfl
      have g0 := heap_cell HD.out (j := 0) rfl
      have g1 := heap_cell HD.out (j := 1) rfl
      go_wp2_with fail
      refine (chanceV hc.out n0 hk1 o0 o1 f0 f1 HV _).mono ?_
      rintro e y1 ⟨rfl, hb1⟩
      have hb2 := hb1.alloc hb1.size (.cells #[.int .i64 pn, .int .i64 pd] 31)
      replace HC := Lib.hid (heap_lift HC.out hb2)
      replace HD := Lib.hid (heap_lift HD.out hb2)
      replace HI := Lib.hid (IntsAt.below HI.out hb2)
      replace HOWN := Lib.hid (row_below HOWN.out hb2)
      replace HBR := Lib.hid (below_then HBR.out hb2)
      have z0 := heap_cell (heap_top y1 (.cells #[.int .i64 pn, .int .i64 pd] 31) rfl) (j := 0) rfl
      have z1 := heap_cell (heap_top y1 (.cells #[.int .i64 pn, .int .i64 pd] 31) rfl) (j := 1) rfl
      clear hb1 hb2 c0 c1 c2 g0 g1
      go_wp2_with fail
      refine (overOk m0 m1 s0 s1 HV2 _).mono ?_
      rintro e y2 ⟨rfl, hb2⟩
      replace HC := Lib.hid (heap_lift HC.out hb2)
      replace HD := Lib.hid (heap_lift HD.out hb2)
      replace HI := Lib.hid (IntsAt.below HI.out hb2)
      replace HOWN := Lib.hid (row_below HOWN.out hb2)
      replace HBR := Lib.hid (below_then HBR.out hb2)
      clear hb2 z0 z1
      have c0 := heap_cell HC.out (j := 0) rfl
      have c1 := heap_cell HC.out (j := 1) rfl
      have c2 := heap_cell HC.out (j := 2) rfl
      obtain ⟨B0, hB0⟩ : ∃ B0, v3.heap.size = B0 := ⟨_, rfl⟩
      have HSZ : Hid (B0 ≤ y2.heap.size) := Lib.hid (by rw [← hB0]; exact HBR.out.size)
      rw [hB0] at HOWN HBR
      rcases Int.lt_trichotomy mo m with hlt | heq | hgt
      · have HEQ : Hid (Pure.bestP vf (R ++ [n]) = [n]) := Lib.hid (Pure.bestP_more (by rw [HMO.out, HM.out]; exact hlt))
        have HMX : Hid (Pure.most vf (R ++ [n]) = m) := Lib.hid (by rw [Pure.most_snoc, HMO.out, HM.out, Int.max_eq_right (by omega)])
        have hm3 : 0 < m := by omega
        go_wp2_with (at_builtin; refine wpList_append_own _ rfl _ _ 83 rfl B0 3 i0 (.int .i64 0) 1 8 Try.underlying83 hi0 hz0 hz1 hz2 rfl (by decide) _ _ _ rfl (World.ownsRow_nil _ B0 3 1) ⟨y2.heap.size, 0, none⟩ 1 1 [.int .i64 n] rfl rfl (cell_one _ _ _ (by simp)) (by simp [Value.oneCell']) (by unfold maxLen; omega) (by omega) (by have := HSZ.out; simp; omega) ?_; intro v' w1 hown' hgrow _)
        have HOWN2 := Lib.hid hown'
        have HB2 := Lib.hid ((HBR.out.alloc (by have := HSZ.out; omega) (.cells #[.int .i64 n] 3)).grown hgrow (by have := HSZ.out; simp; omega) (fun k e => ((World.ownsRow_nil w B0 3 1).lt k e).1))
        clear hown' hgrow
        go_wp2_with fail
        go_roundw
        case rel =>
          refine ⟨k + 1, by rw [HNS.out]; omega, by rw [HNS.out], by rw [HRUN.out, HMX.out], ?_, by rw [hB0]; exact HB2.out⟩
          rw [HRUN.out, HEQ.out, hB0]
          simpa using HOWN2.out
        case measure => (simp [intOf] <;> omega)
      · subst heq
        by_cases hm3 : 0 < mo
        · have HEQ : Hid (Pure.bestP vf (R ++ [n]) = Pure.bestP vf R ++ [n]) := Lib.hid (Pure.bestP_same (by rw [HMO.out, HM.out]) (by rw [HM.out]; exact hm3))
          have HMX : Hid (Pure.most vf (R ++ [n]) = mo) := Lib.hid (by rw [Pure.most_snoc, HMO.out, HM.out, Int.max_eq_right (by omega)])
          go_wp2_with (at_builtin; refine wpList_append_own _ rfl _ _ 83 rfl B0 3 i0 (.int .i64 0) 1 8 Try.underlying83 hi0 hz0 hz1 hz2 rfl (by decide) _ _ _ rfl (World.ownsRow.alloc HOWN.out _) ⟨y2.heap.size, 0, none⟩ 1 1 [.int .i64 n] rfl rfl (cell_one _ _ _ (by simp)) (by simp [Value.oneCell']) (by have := HLEN.out; unfold maxLen; omega) (by have := HLEN.out; omega) (by have := HSZ.out; simp; omega) ?_; intro v' w1 hown' hgrow _)
          have hlt2 := HOWN.out.lt
          have HOWN2 := Lib.hid hown'
          have HB2 := Lib.hid ((HBR.out.alloc (by have := HSZ.out; omega) (.cells #[.int .i64 n] 3)).grown hgrow (by have := HSZ.out; simp; omega) (fun k e => (hlt2 k e).1))
          clear hown' hgrow hlt2
          go_wp2_with fail
          go_roundw
          case rel =>
            refine ⟨k + 1, by rw [HNS.out]; omega, by rw [HNS.out], by rw [HRUN.out, HMX.out], ?_, by rw [hB0]; exact HB2.out⟩
            rw [HRUN.out, HEQ.out, hB0]
            simpa using HOWN2.out
          case measure => (simp [intOf] <;> omega)
        · have HEQ : Hid (Pure.bestP vf (R ++ [n]) = Pure.bestP vf R) := Lib.hid (Pure.bestP_zero (by rw [HMO.out, HM.out]) (by rw [HM.out]; exact hm3))
          have HMX : Hid (Pure.most vf (R ++ [n]) = mo) := Lib.hid (by rw [Pure.most_snoc, HMO.out, HM.out, Int.max_eq_right (by omega)])
          go_wp2_with fail
          go_roundw
          case rel => exact ⟨k + 1, by rw [HNS.out]; omega, by rw [HNS.out], by rw [HRUN.out, HMX.out], by rw [HRUN.out, HEQ.out, hB0]; exact HOWN.out, by rw [hB0]; exact HBR.out⟩
          case measure => (simp [intOf] <;> omega)
      · have HEQ : Hid (Pure.bestP vf (R ++ [n]) = Pure.bestP vf R) := Lib.hid (Pure.bestP_less (by rw [HMO.out, HM.out]; exact hgt))
        have HMX : Hid (Pure.most vf (R ++ [n]) = mo) := Lib.hid (by rw [Pure.most_snoc, HMO.out, HM.out, Int.max_eq_left (by omega)])
        go_wp2_with fail
        go_roundw
        case rel => exact ⟨k + 1, by rw [HNS.out]; omega, by rw [HNS.out], by rw [HRUN.out, HMX.out], by rw [HRUN.out, HEQ.out, hB0]; exact HOWN.out, by rw [hB0]; exact HBR.out⟩
        case measure => (simp [intOf] <;> omega)
    · obtain rfl : n = hi + 1 := by omega
      have hI := IntsAt.of_row HOWN.out
      rw [HFK.out rfl] at hI
      have HI2 := Lib.hid hI
      have HB9 := Lib.hid (HB.out.trans (HBR.out.mono HB.out.size))
      rw [HFK.out rfl] at HOWN
      have c0 := heap_cell HC.out (j := 0) rfl
      have c1 := heap_cell HC.out (j := 1) rfl
      have c2 := heap_cell HC.out (j := 2) rfl
      clear hI HFK HLEN HMN
      go_wp2_with fail
      refine (sameInts_any _ _ L hlen.out _ HI.out HI2.out).mono ?_
      rintro e y1 ⟨rfl, hb1⟩
      replace HB9 := Lib.hid (below_then HB9.out hb1)
      clear hb1
      go_wp2_with fail
      go_ret
      exact ⟨rfl, HB9.out⟩

/-- The walk of SampleLikely. -/
theorem likely_walk (b lo hi o f : Int) (w : World) :
    Calls Try.prog 9 #[cargoV b lo hi, .agg #[.int .i64 o, .int .i64 f]] w fun e w' => e = .returned (.bool true) ∧ Below w.heap.size w w' := by
  cases hok : Pure.okCargo b lo hi with
  | false => exact likely_bad b lo hi o f (Lib.hid hok) w
  | true =>
    cases hdk : Pure.okDraw b o f with
    | false => exact likely_off b lo hi o f (Lib.hid hok) (Lib.hid hdk) w
    | true =>
      have hk := hok
      unfold Pure.okCargo at hk
      rw [decide_eq_true_eq] at hk
      obtain ⟨b1, b2, l0, l1, hb⟩ := hk
      have hk := hdk
      unfold Pure.okDraw at hk
      rw [decide_eq_true_eq] at hk
      obtain ⟨o0, o1, f0, f1⟩ := hk
      obtain ⟨bn, rfl⟩ : ∃ bn : Nat, b = bn := ⟨b.toNat, by omega⟩
      have hpe : Pure.okParts 0 (fun _ => 0) (fun _ => 0) = true := Pure.okParts_true (fun _ h => absurd h (Nat.not_lt_zero _))
      have hE : Pure.canE bn lo hi o f = Pure.err (Pure.some bn lo hi o f) 8 := by
        unfold Pure.canE
        rw [hpe, Pure.afterE_val hok hdk, Int.toNat_natCast]
      cases hsm : Pure.some bn lo hi o f with
      | true =>
        rw [hsm] at hE
        have hE0 : Pure.canE bn lo hi o f = 0 := hE
        refine likely_yes bn lo hi o f _ _ _ (fun x => Pure.ways bn x o f) (Pure.likely bn lo hi o f) (Lib.hid hok) (Lib.hid hdk) b2 l0 l1 (by omega) hb o0 o1 f0 f1 (Lib.hid rfl) (Pure.sets_pos o0 o1) (Pure.sets_le b2) (Lib.hid hE0) (Lib.hid ?_) (Lib.hid (fun _ => rfl)) (Lib.hid ?_) (Lib.hid ?_) (Lib.hid rfl) (Lib.hid rfl) w
        · rw [Pure.likelyL_zero hE0, Int.toNat_natCast]
        · unfold Pure.likely
          have h1 := Pure.best_length (fun x => Pure.ways bn x o f) (Pure.nums bn lo hi o f)
          have h2 := Pure.nums_length bn lo hi o f
          omega
        · exact fun k hk => Pure.bestP_likely l0 hb hk hsm
      | false =>
        rw [hsm] at hE
        have hE8 : Pure.canE bn lo hi o f = 8 := hE
        exact likely_no bn lo hi o f _ _ (Lib.hid hok) (Lib.hid hdk) (Lib.hid hE8) (Lib.hid (Pure.likelyL_err (by rw [hE8]; decide))) (Lib.hid rfl) (Lib.hid rfl) w

end Go.Proofs.Ytiiecehmldipmaa
