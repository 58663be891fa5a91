/-
  SampleCan: the walk of the law.
-/
import Derived.Test.YtiiecehmldipmaaAlive
import Derived.Test.YtiiecehmldipmaaOver
import Derived.Test.YtiiecehmldipmaaMoreMath
import Derived.BigRegion
import Derived.Deep.QuietTactic
namespace Go.Proofs.Ytiiecehmldipmaa
open Go.RowKit Go.Shelf

theorem chanceV {b lo hi d o f pn pd : Int} (hc : Pure.okCargo b lo hi = true) (d0 : lo ≤ d) (d1 : d ≤ hi) (o0 : 0 ≤ o) (o1 : o ≤ b) (f0 : 0 ≤ f) (f1 : f ≤ o) (h : Hid (partV (Pure.ways b d o f) (Pure.sets b o) = .agg #[.int .i64 pn, .int .i64 pd])) (w : World) :
    Calls Try.prog 27 #[cargoV b lo hi, .int .i64 d, .agg #[.int .i64 o, .int .i64 f]] w fun e w' => e = .returned (.tuple #[.agg #[.int .i64 pn, .int .i64 pd], .int .i64 0]) ∧ Below w.heap.size w w' :=
  (chance_any b lo hi d o f w).mono fun _ _ g => ⟨g.1.trans (by
    have h2 : Pure.okDraw b o f = true := by unfold Pure.okDraw; rw [decide_eq_true_eq]; omega
    have h3 : Pure.okIn lo hi d = true := by unfold Pure.okIn; rw [decide_eq_true_eq]; omega
    rw [Pure.res2_zero (by rw [hc, h2, h3]; rfl), h.out]), g.2⟩
/-- What Can answers, given by its values. -/
theorem canV {b lo hi o f sl sh ec : Int} (h1 : Hid (Pure.pick (Pure.canE b lo hi o f) (Pure.fst b (Pure.nums b.toNat lo hi o f)) = sl)) (h2 : Hid (Pure.pick (Pure.canE b lo hi o f) (Pure.lst (Pure.nums b.toNat lo hi o f)) = sh)) (h3 : Hid (Pure.canE b lo hi o f = ec)) (w : World) :
    Calls Try.prog 24 #[cargoV b lo hi, .agg #[.int .i64 o, .int .i64 f]] w fun e w' => e = .returned (.tuple #[.agg #[.int .i64 sl, .int .i64 sh], .int .i64 ec]) ∧ Below w.heap.size w w' :=
  (can_top b lo hi o f w).mono fun _ _ g => ⟨g.1.trans (by rw [h1.out, h2.out, h3.out]), g.2⟩
theorem drawnOk {b o f : Int} (o0 : 0 ≤ o) (o1 : o ≤ b) (f0 : 0 ≤ f) (f1 : f ≤ o) : Pure.okDraw b o f = true := by unfold Pure.okDraw; rw [decide_eq_true_eq]; omega
/-- What Rest answers, given by its values. -/
theorem restV {b lo hi o f rb rl rh re : Int} (h1 : Hid (Pure.pick (Pure.restE b lo hi o f) (b - o) = rb)) (h2 : Hid (Pure.pick (Pure.restE b lo hi o f) (Pure.fst b (Pure.nums b.toNat lo hi o f) - f) = rl)) (h3 : Hid (Pure.pick (Pure.restE b lo hi o f) (Pure.lst (Pure.nums b.toNat lo hi o f) - f) = rh)) (h4 : Hid (Pure.restE b lo hi o f = re)) (w : World) :
    Calls Try.prog 28 #[cargoV b lo hi, .agg #[.int .i64 o, .int .i64 f]] w fun e w' => e = .returned (.tuple #[.agg #[.int .i64 rb, .int .i64 rl, .int .i64 rh], .int .i64 re]) ∧ Below w.heap.size w w' :=
  (rest_top b lo hi o f w).mono fun _ _ g => ⟨g.1.trans (by rw [h1.out, h2.out, h3.out, h4.out]), g.2⟩
theorem checkOk {b lo hi : Int} (hc : Pure.okCargo b lo hi = true) (w : World) :
    Calls Try.prog 29 #[cargoV b lo hi] w fun e w' => e = .returned (.int .i64 0) ∧ Below w.heap.size w w' :=
  (check_any b lo hi w).mono fun _ _ g => ⟨g.1.trans (by rw [hc]; rfl), g.2⟩
/-- Whether a number is within what is told. -/
def isV (sl sh ec n : Int) : Bool := decide (ec = 0) && decide (sl ≤ n) && decide (n ≤ sh)
set_option maxHeartbeats 2000000 in
set_option maxRecDepth 100000 in
theorem is_any (sl sh ec n : Int) {B : Bool} (h : Hid (isV sl sh ec n = B)) (w : World) :
    Calls Try.prog 25 #[.agg #[.int .i64 sl, .int .i64 sh], .int .i64 ec, .int .i64 n] w fun e w' => e = .returned (.bool B) ∧ Below w.heap.size w w' := by
  obtain ⟨B', rfl⟩ : ∃ B', B = B' := ⟨_, rfl⟩
  have h' := h.out
  clear h
  unfold isV at h'
  by_cases h1 : ec = 0
  · by_cases h2 : sl ≤ n
    · by_cases h3 : n ≤ sh
      · obtain rfl : B = true := by rw [← h']; simp [h1, h2, h3]
        clear h'
        subst h1
        go_enter Try.func25, Try.ntmps25
        go_wp2_with fail
        go_ret
        exact ⟨rfl, (Below.refl _ _).alloc (Nat.le_refl _) _⟩
      · obtain rfl : B = false := by rw [← h']; simp [h1, h2, h3]
        clear h'
        subst h1
        go_enter Try.func25, Try.ntmps25
        go_wp2_with fail
        go_ret
        exact ⟨rfl, (Below.refl _ _).alloc (Nat.le_refl _) _⟩
    · obtain rfl : B = false := by rw [← h']; simp [h1, h2]
      clear h'
      subst h1
      go_enter Try.func25, Try.ntmps25
      go_wp2_with fail
      go_ret
      exact ⟨rfl, (Below.refl _ _).alloc (Nat.le_refl _) _⟩
  · obtain rfl : B = false := by rw [← h']; simp [h1]
    have h1' : (ec == 0) = false := by simp [h1]
    clear h' h1
    go_enter Try.func25, Try.ntmps25
    go_wp2_with fail
    go_ret
    exact ⟨rfl, (Below.refl _ _).alloc (Nat.le_refl _) _⟩
/-- What Can tells of a valid cargo and draw. -/
theorem can_vals {b : Nat} {lo hi o f : Int} (hok : Pure.okCargo b lo hi = true) (o0 : 0 ≤ o) (o1 : o ≤ b) (f0 : 0 ≤ f) (f1 : f ≤ o) :
    ∃ sl sh ec : Int, Pure.pick (Pure.canE b lo hi o f) (Pure.fst b (Pure.nums (b : Int).toNat lo hi o f)) = sl ∧ Pure.pick (Pure.canE b lo hi o f) (Pure.lst (Pure.nums (b : Int).toNat lo hi o f)) = sh ∧ Pure.canE b lo hi o f = ec ∧
      ((ec = 0 ∧ sl = max lo f ∧ sh = min hi (b - o + f) ∧ sl ≤ sh ∧ Pure.fst b (Pure.nums (b : Int).toNat lo hi o f) = sl ∧ Pure.lst (Pure.nums (b : Int).toNat lo hi o f) = sh) ∨ (ec = 8 ∧ sl = 0 ∧ sh = 0 ∧ min hi (b - o + f) < max lo f)) := by
  have hk := hok
  unfold Pure.okCargo at hk
  rw [decide_eq_true_eq] at hk
  obtain ⟨b1, b2, l0, l1, hb⟩ := hk
  have hdk : Pure.okDraw b o f = true := drawnOk o0 o1 f0 f1
  have hpe : Pure.okParts 0 (fun _ => 0) (fun _ => 0) = true := Pure.okParts_true (fun _ h => absurd h (Nat.not_lt_zero _))
  have hE : Pure.canE b lo hi o f = Pure.err (Pure.some b lo hi o f) 8 := by
    unfold Pure.canE
    rw [hpe, Pure.afterE_val hok hdk, Int.toNat_natCast]
  by_cases hs : max lo f ≤ min hi ((b : Int) - o + f)
  · have hsm := (Pure.some_iff (b := b) (o := o) l0 hb f0 f1).2 hs
    rw [hsm] at hE
    have hE0 : Pure.canE b lo hi o f = 0 := hE
    have hsv := Pure.span_vals (b := b) (o := o) l0 hb f0 f1 hs
    refine ⟨_, _, _, rfl, rfl, rfl, .inl ?_⟩
    rw [hE0, Pure.pick_zero rfl, Pure.pick_zero rfl, Int.toNat_natCast, hsv.1, hsv.2]
    exact ⟨rfl, rfl, rfl, hs, rfl, rfl⟩
  · have hsm : Pure.some b lo hi o f = false := by
      cases e : Pure.some b lo hi o f with
      | false => rfl
      | true => exact absurd ((Pure.some_iff l0 hb f0 f1).1 e) hs
    rw [hsm] at hE
    have hE0 : Pure.canE b lo hi o f = 8 := hE
    refine ⟨_, _, _, rfl, rfl, rfl, .inr ?_⟩
    rw [hE0, Pure.pick_err (by decide), Pure.pick_err (by decide)]
    exact ⟨rfl, rfl, rfl, by omega⟩
theorem is_span {b lo hi o f sl sh ec n : Int} (n0 : lo ≤ n) (n1 : n ≤ hi) (h : (ec = 0 ∧ sl = max lo f ∧ sh = min hi (b - o + f) ∧ sl ≤ sh) ∨ (ec = 8 ∧ sl = 0 ∧ sh = 0 ∧ min hi (b - o + f) < max lo f)) :
    isV sl sh ec n = decide (f ≤ n ∧ n ≤ b - o + f) := by
  unfold isV
  rcases h with ⟨rfl, h2, h3, _⟩ | ⟨rfl, _, _, h4⟩
  · have m1 : sl ≤ n ↔ (lo ≤ n ∧ f ≤ n) := by rw [h2]; exact Int.max_le
    have m2 : n ≤ sh ↔ (n ≤ hi ∧ n ≤ b - o + f) := by rw [h3]; exact Int.le_min
    rw [Bool.eq_iff_iff]
    simp only [Bool.and_eq_true, decide_eq_true_eq, m1, m2]
    exact ⟨fun h => ⟨h.1.2.2, h.2.2⟩, fun h => ⟨⟨trivial, n0, h.1⟩, n1, h.2⟩⟩
  · rw [Bool.eq_iff_iff]
    simp only [Bool.and_eq_true, decide_eq_true_eq]
    refine ⟨fun h => by omega, fun h => ?_⟩
    have p1 := Int.lt_of_lt_of_le h4 (Int.max_le.2 ⟨n0, h.1⟩)
    have p2 := Int.le_min.2 ⟨n1, h.2⟩
    omega
theorem low_pos {m S pn pd : Int} (m0 : 0 ≤ m) (s0 : 0 < S) (h : partV m S = .agg #[.int .i64 pn, .int .i64 pd]) : (0 < m → 0 < pn) ∧ (m = 0 → pn = 0) := by
  simp only [partV, Value.agg.injEq, Array.mk.injEq, List.cons.injEq, Value.int.injEq, true_and, and_true] at h
  obtain ⟨rfl, rfl⟩ := h
  have h1 := (Pure.low_num (n := m) m0 s0).1
  have h2 := (Pure.low_share (m := m) m0 s0).2
  refine ⟨fun h => ?_, fun h => by rw [h]; exact Int.zero_ediv _⟩
  rcases Int.lt_or_eq_of_le h1 with h3 | h3
  · exact h3
  · rw [← h3, Int.zero_mul] at h2
    omega
/-- What stays while a box is filled: four blocks, and that box, with two cells. -/
def Held (w : World) (Bc Bs Bo B9 : Nat) (C D X O : Obj) (t : TypeId) (v : World) : Prop :=
  v.heap[Bc]? = some C ∧ v.heap[Bc + 1]? = some D ∧ v.heap[Bs]? = some X ∧ v.heap[Bo]? = some O ∧ (∃ x y : Value, v.heap[B9]? = some (.cells #[x, y] t)) ∧ Below w.heap.size w v
theorem Held.lift {w u v : World} {Bc Bs Bo B9 : Nat} {C D X O : Obj} {t : TypeId} (h : Held w Bc Bs Bo B9 C D X O t u) (k : Below u.heap.size u v) : Held w Bc Bs Bo B9 C D X O t v := by
  obtain ⟨h1, h2, h3, h4, ⟨x, y, h5⟩, h6⟩ := h
  exact ⟨heap_lift h1 k, heap_lift h2 k, heap_lift h3 k, heap_lift h4 k, ⟨x, y, heap_lift h5 k⟩, below_then h6 k⟩
theorem Held.set {w u : World} {Bc Bs Bo B9 : Nat} {C D X O : Obj} {t : TypeId} (h : Held w Bc Bs Bo B9 C D X O t u) (n1 : B9 ≠ Bc) (n2 : B9 ≠ Bc + 1) (n3 : B9 ≠ Bs) (n4 : B9 ≠ Bo) (n5 : w.heap.size ≤ B9) (x y : Value) : Held w Bc Bs Bo B9 C D X O t ((u.setCell ⟨B9, 0, none⟩ x).setCell ⟨B9, 1, none⟩ y) := by
  obtain ⟨h1, h2, h3, h4, ⟨x', y', h5⟩, h6⟩ := h
  exact ⟨heap_far2 n1 h1 _ _, heap_far2 n2 h2 _ _, heap_far2 n3 h3 _ _, heap_far2 n4 h4 _ _, ⟨x, y, heap_two h5 _ _⟩, below_set2 h6 n5 _ _⟩
theorem Held.box {w v : World} {Bc Bs Bo B9 : Nat} {C D X O : Obj} {t : TypeId} (h : Held w Bc Bs Bo B9 C D X O t v) : ∃ x y : Value, v.heap[B9]? = some (.cells #[x, y] t) := by
  unfold Held at h
  exact h.2.2.2.2.1
theorem Held.all {w v : World} {Bc Bs Bo B9 : Nat} {C D X O : Obj} {t : TypeId} (h : Held w Bc Bs Bo B9 C D X O t v) : v.heap[Bc]? = some C ∧ v.heap[Bc + 1]? = some D ∧ v.heap[Bs]? = some X ∧ v.heap[Bo]? = some O ∧ Below w.heap.size w v := by
  unfold Held at h
  exact ⟨h.1, h.2.1, h.2.2.1, h.2.2.2.1, h.2.2.2.2.2⟩

set_option maxHeartbeats 4000000 in
set_option maxRecDepth 100000 in
/-- A cargo that is not valid. -/
theorem can_bad (b lo hi o f : Int) (hc : Hid (Pure.okCargo b lo hi = false)) (w : World) :
    Calls Try.prog 4 #[cargoV b lo hi, .agg #[.int .i64 o, .int .i64 f]] w fun e w' => e = .returned (.bool true) ∧ Below w.heap.size w w' := by
  go_enter Try.func4, Try.ntmps4
  go_wp2_with fail
  refine (alive_any _).mono ?_
  rintro e w1 ⟨rfl, hb1⟩
  have hcc := heap_lift (heap_up (heap_top w (.cells #[.int .i64 b, .int .i64 lo, .int .i64 hi] 25) rfl) (.cells #[.int .i64 o, .int .i64 f] 57)) hb1
  have hdd := heap_lift (heap_top (w.alloc (.cells #[.int .i64 b, .int .i64 lo, .int .i64 hi] 25)) (.cells #[.int .i64 o, .int .i64 f] 57) rfl) hb1
  have HC := Lib.hid hcc
  have HD := Lib.hid hdd
  have HB := Lib.hid (below_then (((Below.refl _ _).alloc (Nat.le_refl _) (.cells #[.int .i64 b, .int .i64 lo, .int .i64 hi] 25)).alloc (by simp) (.cells #[.int .i64 o, .int .i64 f] 57)) hb1)
  obtain ⟨Bc, hBc⟩ : ∃ Bc, w.heap.size = Bc := ⟨_, rfl⟩
  have hBd : (w.alloc (.cells #[.int .i64 b, .int .i64 lo, .int .i64 hi] 25)).heap.size = Bc + 1 := by rw [← hBc]; simp
  rw [hBd] at HD
  rw [hBc] at HC
  have c0 := heap_cell HC.out (j := 0) rfl
  have c1 := heap_cell HC.out (j := 1) rfl
  have c2 := heap_cell HC.out (j := 2) rfl
  have g0 := heap_cell HD.out (j := 0) rfl
  have g1 := heap_cell HD.out (j := 1) rfl
  clear hcc hdd hb1 hBd
  go_wp2_with fail
  clear hBc
  refine (rCargo_any b lo hi _).mono ?_
  rw [hc.out]
  rintro e w2 ⟨rfl, rfl⟩
  obtain ⟨w2, hw2⟩ : ∃ w2, w1.alloc (.cells #[.int .i64 b, .int .i64 lo, .int .i64 hi] 25) = w2 := ⟨_, rfl⟩
  replace HC := Lib.hid (heap_up HC.out (.cells #[.int .i64 b, .int .i64 lo, .int .i64 hi] 25))
  replace HD := Lib.hid (heap_up HD.out (.cells #[.int .i64 b, .int .i64 lo, .int .i64 hi] 25))
  replace HB := Lib.hid (HB.out.alloc HB.out.size (.cells #[.int .i64 b, .int .i64 lo, .int .i64 hi] 25))
  rw [hw2] at HC HD HB
  rw [hw2]
  clear c0 c1 c2 g0 g1 hw2
  clear HC HD
  go_wp2_with fail
  go_ret
  exact ⟨rfl, HB.out⟩

set_option maxHeartbeats 4000000 in
set_option maxRecDepth 100000 in
/-- A draw that is not valid. -/
theorem can_off (b lo hi o f : Int) (hc : Hid (Pure.okCargo b lo hi = true)) (hdr : Hid (Pure.okDraw b o f = false)) (w : World) :
    Calls Try.prog 4 #[cargoV b lo hi, .agg #[.int .i64 o, .int .i64 f]] w fun e w' => e = .returned (.bool true) ∧ Below w.heap.size w w' := by
  go_enter Try.func4, Try.ntmps4
  go_wp2_with fail
  refine (alive_any _).mono ?_
  rintro e w1 ⟨rfl, hb1⟩
  have hcc := heap_lift (heap_up (heap_top w (.cells #[.int .i64 b, .int .i64 lo, .int .i64 hi] 25) rfl) (.cells #[.int .i64 o, .int .i64 f] 57)) hb1
  have hdd := heap_lift (heap_top (w.alloc (.cells #[.int .i64 b, .int .i64 lo, .int .i64 hi] 25)) (.cells #[.int .i64 o, .int .i64 f] 57) rfl) hb1
  have HC := Lib.hid hcc
  have HD := Lib.hid hdd
  have HB := Lib.hid (below_then (((Below.refl _ _).alloc (Nat.le_refl _) (.cells #[.int .i64 b, .int .i64 lo, .int .i64 hi] 25)).alloc (by simp) (.cells #[.int .i64 o, .int .i64 f] 57)) hb1)
  obtain ⟨Bc, hBc⟩ : ∃ Bc, w.heap.size = Bc := ⟨_, rfl⟩
  have hBd : (w.alloc (.cells #[.int .i64 b, .int .i64 lo, .int .i64 hi] 25)).heap.size = Bc + 1 := by rw [← hBc]; simp
  rw [hBd] at HD
  rw [hBc] at HC
  have c0 := heap_cell HC.out (j := 0) rfl
  have c1 := heap_cell HC.out (j := 1) rfl
  have c2 := heap_cell HC.out (j := 2) rfl
  have g0 := heap_cell HD.out (j := 0) rfl
  have g1 := heap_cell HD.out (j := 1) rfl
  clear hcc hdd hb1 hBd
  go_wp2_with fail
  clear hBc
  refine (rCargo_any b lo hi _).mono ?_
  rw [hc.out]
  rintro e w2 ⟨rfl, rfl⟩
  obtain ⟨w2, hw2⟩ : ∃ w2, w1.alloc (.cells #[.int .i64 b, .int .i64 lo, .int .i64 hi] 25) = w2 := ⟨_, rfl⟩
  replace HC := Lib.hid (heap_up HC.out (.cells #[.int .i64 b, .int .i64 lo, .int .i64 hi] 25))
  replace HD := Lib.hid (heap_up HD.out (.cells #[.int .i64 b, .int .i64 lo, .int .i64 hi] 25))
  replace HB := Lib.hid (HB.out.alloc HB.out.size (.cells #[.int .i64 b, .int .i64 lo, .int .i64 hi] 25))
  rw [hw2] at HC HD HB
  rw [hw2]
  clear c0 c1 c2 g0 g1 hw2
  have c0 := heap_cell HC.out (j := 0) rfl
  have c1 := heap_cell HC.out (j := 1) rfl
  have c2 := heap_cell HC.out (j := 2) rfl
  have g0 := heap_cell HD.out (j := 0) rfl
  have g1 := heap_cell HD.out (j := 1) rfl
  go_wp2_with fail
  refine (rDraw_any b lo hi o f _).mono ?_
  rw [hdr.out]
  rintro e w3 ⟨rfl, rfl⟩
  obtain ⟨w3, hw3⟩ : ∃ w3, (w2.alloc (.cells #[.int .i64 b, .int .i64 lo, .int .i64 hi] 25)).alloc (.cells #[.int .i64 o, .int .i64 f] 57) = w3 := ⟨_, rfl⟩
  have hb3 : Below w2.heap.size w2 w3 := by rw [← hw3]; exact ((Below.refl _ _).alloc (Nat.le_refl _) _).alloc (by simp) _
  replace HC := Lib.hid (heap_lift HC.out hb3)
  replace HD := Lib.hid (heap_lift HD.out hb3)
  replace HB := Lib.hid (HB.out.trans (hb3.mono HB.out.size))
  rw [hw3]
  clear hb3 hw3 c0 c1 c2 g0 g1
  clear HC HD
  go_wp2_with fail
  go_ret
  exact ⟨rfl, HB.out⟩

set_option maxHeartbeats 16000000 in
set_option maxRecDepth 100000 in
theorem can_yes_lt (b lo hi o f sl sh s1l s1h e1 s2l s2h e2 S : Int) (hc : Hid (Pure.okCargo b lo hi = true)) (hdr : Hid (Pure.okDraw b o f = true)) (b1 : 1 ≤ b) (b2 : b ≤ 36) (l0 : 0 ≤ lo) (l1 : lo ≤ hi) (hbb : hi ≤ b) (o0 : 0 ≤ o) (o1 : o ≤ b) (f0 : 0 ≤ f) (f1 : f ≤ o)
    (hsl : Hid (Pure.pick (Pure.canE b lo hi o f) (Pure.fst b (Pure.nums b.toNat lo hi o f)) = sl)) (hsh : Hid (Pure.pick (Pure.canE b lo hi o f) (Pure.lst (Pure.nums b.toNat lo hi o f)) = sh)) (hec : Hid (Pure.canE b lo hi o f = 0))
    (a1 : lo ≤ sl) (a2 : sl ≤ sh) (a3 : sh ≤ hi) (f2 : f ≤ sl)
    (hob : o < b)
    (hs1l : Hid (Pure.pick (Pure.canE b lo hi (o + 1) f) (Pure.fst b (Pure.nums b.toNat lo hi (o + 1) f)) = s1l)) (hs1h : Hid (Pure.pick (Pure.canE b lo hi (o + 1) f) (Pure.lst (Pure.nums b.toNat lo hi (o + 1) f)) = s1h)) (he1 : Hid (Pure.canE b lo hi (o + 1) f = e1))
    (hs2l : Hid (Pure.pick (Pure.canE b lo hi (o + 1) (f + 1)) (Pure.fst b (Pure.nums b.toNat lo hi (o + 1) (f + 1))) = s2l)) (hs2h : Hid (Pure.pick (Pure.canE b lo hi (o + 1) (f + 1)) (Pure.lst (Pure.nums b.toNat lo hi (o + 1) (f + 1))) = s2h)) (he2 : Hid (Pure.canE b lo hi (o + 1) (f + 1) = e2))
    (hJ : Hid (∀ n : Int, lo ≤ n → n ≤ hi → isV sl sh 0 n = (isV s1l s1h e1 n || isV s2l s2h e2 n)))
    (hI : Hid (∀ n : Int, lo ≤ n → n ≤ hi → isV sl sh 0 n = decide (0 < Pure.ways b n o f))) (hS : Hid (Pure.sets b o = S)) (s0 : 0 < S)
    (hrb : Hid (Pure.pick (Pure.restE b lo hi o f) (b - o) = (b - o))) (hrl : Hid (Pure.pick (Pure.restE b lo hi o f) (Pure.fst b (Pure.nums b.toNat lo hi o f) - f) = (sl - f))) (hrh : Hid (Pure.pick (Pure.restE b lo hi o f) (Pure.lst (Pure.nums b.toNat lo hi o f) - f) = (sh - f))) (hre : Hid (Pure.restE b lo hi o f = 0)) (hrc : Hid (Pure.okCargo (b - o) (sl - f) (sh - f) = true)) (w : World) :
    Calls Try.prog 4 #[cargoV b lo hi, .agg #[.int .i64 o, .int .i64 f]] w fun e w' => e = .returned (.bool true) ∧ Below w.heap.size w w' := by
  go_enter Try.func4, Try.ntmps4
  go_wp2_with fail
  refine (alive_any _).mono ?_
  rintro e w1 ⟨rfl, hb1⟩
  have hcc := heap_lift (heap_up (heap_top w (.cells #[.int .i64 b, .int .i64 lo, .int .i64 hi] 25) rfl) (.cells #[.int .i64 o, .int .i64 f] 57)) hb1
  have hdd := heap_lift (heap_top (w.alloc (.cells #[.int .i64 b, .int .i64 lo, .int .i64 hi] 25)) (.cells #[.int .i64 o, .int .i64 f] 57) rfl) hb1
  have HC := Lib.hid hcc
  have HD := Lib.hid hdd
  have HB := Lib.hid (below_then (((Below.refl _ _).alloc (Nat.le_refl _) (.cells #[.int .i64 b, .int .i64 lo, .int .i64 hi] 25)).alloc (by simp) (.cells #[.int .i64 o, .int .i64 f] 57)) hb1)
  obtain ⟨Bc, hBc⟩ : ∃ Bc, w.heap.size = Bc := ⟨_, rfl⟩
  have hBd : (w.alloc (.cells #[.int .i64 b, .int .i64 lo, .int .i64 hi] 25)).heap.size = Bc + 1 := by rw [← hBc]; simp
  rw [hBd] at HD
  rw [hBc] at HC
  have c0 := heap_cell HC.out (j := 0) rfl
  have c1 := heap_cell HC.out (j := 1) rfl
  have c2 := heap_cell HC.out (j := 2) rfl
  have g0 := heap_cell HD.out (j := 0) rfl
  have g1 := heap_cell HD.out (j := 1) rfl
  clear hcc hdd hb1 hBd
  go_wp2_with fail
  clear hBc
  refine (rCargo_any b lo hi _).mono ?_
  rw [hc.out]
  rintro e w2 ⟨rfl, rfl⟩
  obtain ⟨w2, hw2⟩ : ∃ w2, w1.alloc (.cells #[.int .i64 b, .int .i64 lo, .int .i64 hi] 25) = w2 := ⟨_, rfl⟩
  replace HC := Lib.hid (heap_up HC.out (.cells #[.int .i64 b, .int .i64 lo, .int .i64 hi] 25))
  replace HD := Lib.hid (heap_up HD.out (.cells #[.int .i64 b, .int .i64 lo, .int .i64 hi] 25))
  replace HB := Lib.hid (HB.out.alloc HB.out.size (.cells #[.int .i64 b, .int .i64 lo, .int .i64 hi] 25))
  rw [hw2] at HC HD HB
  rw [hw2]
  clear c0 c1 c2 g0 g1 hw2
  have c0 := heap_cell HC.out (j := 0) rfl
  have c1 := heap_cell HC.out (j := 1) rfl
  have c2 := heap_cell HC.out (j := 2) rfl
  have g0 := heap_cell HD.out (j := 0) rfl
  have g1 := heap_cell HD.out (j := 1) rfl
  go_wp2_with fail
  refine (rDraw_any b lo hi o f _).mono ?_
  rw [hdr.out]
  rintro e w3 ⟨rfl, rfl⟩
  obtain ⟨w3, hw3⟩ : ∃ w3, (w2.alloc (.cells #[.int .i64 b, .int .i64 lo, .int .i64 hi] 25)).alloc (.cells #[.int .i64 o, .int .i64 f] 57) = w3 := ⟨_, rfl⟩
  have hb3 : Below w2.heap.size w2 w3 := by rw [← hw3]; exact ((Below.refl _ _).alloc (Nat.le_refl _) _).alloc (by simp) _
  replace HC := Lib.hid (heap_lift HC.out hb3)
  replace HD := Lib.hid (heap_lift HD.out hb3)
  replace HB := Lib.hid (HB.out.trans (hb3.mono HB.out.size))
  rw [hw3]
  clear hb3 hw3 c0 c1 c2 g0 g1
  have c0 := heap_cell HC.out (j := 0) rfl
  have c1 := heap_cell HC.out (j := 1) rfl
  have c2 := heap_cell HC.out (j := 2) rfl
  have g0 := heap_cell HD.out (j := 0) rfl
  have g1 := heap_cell HD.out (j := 1) rfl
  go_wp2_with fail
  refine (canV hsl hsh hec _).mono ?_
  rintro e v1 ⟨rfl, hb1⟩
  replace HC := Lib.hid (heap_lift HC.out hb1)
  replace HD := Lib.hid (heap_lift HD.out hb1)
  replace HB := Lib.hid (below_then HB.out hb1)
  clear hb1 c0 c1 c2 g0 g1
  go_upto_region 5 with fail
  have hb2 : Below v1.heap.size v1 (v1.alloc (.cells #[.int .i64 sl, .int .i64 sh] 23)) := (Below.refl _ _).alloc (Nat.le_refl _) (.cells #[.int .i64 sl, .int .i64 sh] 23)
  have hx := heap_top v1 (.cells #[.int .i64 sl, .int .i64 sh] 23) rfl
  have hlt : Bc + 1 < v1.heap.size ∧ w.heap.size ≤ v1.heap.size := ⟨(Array.getElem?_eq_some_iff.1 HD.out).1, HB.out.size⟩
  replace HC := Lib.hid (heap_lift HC.out hb2)
  replace HD := Lib.hid (heap_lift HD.out hb2)
  replace HB := Lib.hid (below_then HB.out hb2)
  obtain ⟨Bs, hBs⟩ : ∃ B, v1.heap.size = B := ⟨_, rfl⟩
  obtain ⟨v1', hv1'⟩ : ∃ v, v1.alloc (.cells #[.int .i64 sl, .int .i64 sh] 23) = v := ⟨_, rfl⟩
  have hsz : v1'.heap.size = Bs + 1 := by rw [← hv1', ← hBs]; simp
  rw [hBs] at hx hlt
  rw [hv1'] at HC HD HB hx
  rw [hv1', hBs]
  have HX := Lib.hid hx
  have HLT := Lib.hid hlt
  clear hb2 hx hlt hBs hv1'
  have c0 := heap_cell HC.out (j := 0) rfl
  have c1 := heap_cell HC.out (j := 1) rfl
  have c2 := heap_cell HC.out (j := 2) rfl
  have g0 := heap_cell HD.out (j := 0) rfl
  have g1 := heap_cell HD.out (j := 1) rfl
  have k0 := heap_cell HX.out (j := 0) rfl
  have k1 := heap_cell HX.out (j := 1) rfl
  go_upto_region 10 with fail
  have hy := heap_up (heap_top v1' (.cells #[.int .i64 0, .int .i64 0] 23) rfl) (.cells #[.int .i64 0, .int .i64 0] 23)
  have hz := heap_top (v1'.alloc (.cells #[.int .i64 0, .int .i64 0] 23)) (.cells #[.int .i64 0, .int .i64 0] 23) rfl
  have hb2 : Below v1'.heap.size v1' ((v1'.alloc (.cells #[.int .i64 0, .int .i64 0] 23)).alloc (.cells #[.int .i64 0, .int .i64 0] 23)) := ((Below.refl _ _).alloc (Nat.le_refl _) (.cells #[.int .i64 0, .int .i64 0] 23)).alloc (by simp) (.cells #[.int .i64 0, .int .i64 0] 23)
  replace HC := Lib.hid (heap_lift HC.out hb2)
  replace HD := Lib.hid (heap_lift HD.out hb2)
  replace HX := Lib.hid (heap_lift HX.out hb2)
  replace HB := Lib.hid (below_then HB.out hb2)
  have hB2 : (v1'.alloc (.cells #[.int .i64 0, .int .i64 0] 23)).heap.size = Bs + 1 + 1 := by simp [hsz]
  obtain ⟨v2, hv2⟩ : ∃ v, (v1'.alloc (.cells #[.int .i64 0, .int .i64 0] 23)).alloc (.cells #[.int .i64 0, .int .i64 0] 23) = v := ⟨_, rfl⟩
  rw [hsz] at hy
  rw [hB2] at hz
  rw [hv2] at HC HD HX HB hy hz
  have HY := Lib.hid hy
  have HZ := Lib.hid hz
  rw [hv2]
  try rw [hsz]
  clear hy hz hb2 hsz hB2 hv2 c0 c1 c2 g0 g1 k0 k1
  have c0 := heap_cell HC.out (j := 0) rfl
  have c1 := heap_cell HC.out (j := 1) rfl
  have c2 := heap_cell HC.out (j := 2) rfl
  have g0 := heap_cell HD.out (j := 0) rfl
  have g1 := heap_cell HD.out (j := 1) rfl
  go_upto_region 11 with fail
  clear c0 c1 c2 g0 g1
  have t1 : IntKind.i64.wrap (o + 1) = o + 1 := IntWalk.i64_in _ (by omega)
  have t2 : IntKind.i64.wrap (f + 1) = f + 1 := IntWalk.i64_in _ (by omega)
  have HK : Hid (∀ v : World, Held w Bc Bs (Bs + 1 + 1) (Bs + 1) (.cells #[.int .i64 b, .int .i64 lo, .int .i64 hi] 25) (.cells #[.int .i64 o, .int .i64 f] 57) (.cells #[.int .i64 sl, .int .i64 sh] 23) (.cells #[.int .i64 0, .int .i64 0] 23) 23 v → (v.cell? ⟨Bc, 0, none⟩ = some (.int .i64 b) ∧ v.cell? ⟨Bc, 1, none⟩ = some (.int .i64 lo) ∧ v.cell? ⟨Bc, 2, none⟩ = some (.int .i64 hi) ∧ v.cell? ⟨(Bc + 1), 0, none⟩ = some (.int .i64 o) ∧ v.cell? ⟨(Bc + 1), 1, none⟩ = some (.int .i64 f) ∧ Held w Bc Bs (Bs + 1 + 1) (Bs + 1) (.cells #[.int .i64 b, .int .i64 lo, .int .i64 hi] 25) (.cells #[.int .i64 o, .int .i64 f] 57) (.cells #[.int .i64 sl, .int .i64 sh] 23) (.cells #[.int .i64 0, .int .i64 0] 23) 23 v)) := Lib.hid (fun v k => ⟨heap_cell k.1 (j := 0) rfl, heap_cell k.1 (j := 1) rfl, heap_cell k.1 (j := 2) rfl, heap_cell k.2.1 (j := 0) rfl, heap_cell k.2.1 (j := 1) rfl, k⟩)
  have HH : Hid (Held w Bc Bs (Bs + 1 + 1) (Bs + 1) (.cells #[.int .i64 b, .int .i64 lo, .int .i64 hi] 25) (.cells #[.int .i64 o, .int .i64 f] 57) (.cells #[.int .i64 sl, .int .i64 sh] 23) (.cells #[.int .i64 0, .int .i64 0] 23) 23 v2) := Lib.hid ⟨HC.out, HD.out, HX.out, HZ.out, ⟨_, _, HY.out⟩, HB.out⟩
  have hlt := HLT.out
  go_cut [11] (fun s wx => s = .int .i64 e1 ∧ wx.heap[Bc]? = some (.cells #[.int .i64 b, .int .i64 lo, .int .i64 hi] 25) ∧ wx.heap[Bc + 1]? = some (.cells #[.int .i64 o, .int .i64 f] 57) ∧ wx.heap[Bs]? = some (.cells #[.int .i64 sl, .int .i64 sh] 23) ∧ wx.heap[Bs + 1]? = some (.cells #[.int .i64 s1l, .int .i64 s1h] 23) ∧ wx.heap[Bs + 1 + 1]? = some (.cells #[.int .i64 0, .int .i64 0] 23) ∧ Below w.heap.size w wx)
  case first =>
    as_aux_lemma =>
      go_region_held3 (fun v => v.cell? ⟨Bc, 0, none⟩ = some (.int .i64 b) ∧ v.cell? ⟨Bc, 1, none⟩ = some (.int .i64 lo) ∧ v.cell? ⟨Bc, 2, none⟩ = some (.int .i64 hi) ∧ v.cell? ⟨(Bc + 1), 0, none⟩ = some (.int .i64 o) ∧ v.cell? ⟨(Bc + 1), 1, none⟩ = some (.int .i64 f) ∧ Held w Bc Bs (Bs + 1 + 1) (Bs + 1) (.cells #[.int .i64 b, .int .i64 lo, .int .i64 hi] 25) (.cells #[.int .i64 o, .int .i64 f] 57) (.cells #[.int .i64 sl, .int .i64 sh] 23) (.cells #[.int .i64 0, .int .i64 0] 23) 23 v)
        (first | exact HK.out _ (HH.out.lift (Below.refl _ _).drew) | with_reducible exact HK.out _ hhu1 | with_reducible exact HK.out _ hhu0 | with_reducible exact HK.out _ (hhu1.set (by omega) (by omega) (by omega) (by omega) (by omega) _ _))
        (first
          | (go_at_call 26; with_reducible refine (drawn_any _ _ _).mono ?_; rintro e u0 ⟨rfl, hbu0⟩; have hhu0 : Held w Bc Bs (Bs + 1 + 1) (Bs + 1) (.cells #[.int .i64 b, .int .i64 lo, .int .i64 hi] 25) (.cells #[.int .i64 o, .int .i64 f] 57) (.cells #[.int .i64 sl, .int .i64 sh] 23) (.cells #[.int .i64 0, .int .i64 0] 23) 23 u0 := Held.lift (And.right (And.right (And.right (And.right (And.right (by assumption)))))) hbu0)
          | (go_at_call 24; with_reducible refine (canV hs1l hs1h he1 _).mono ?_; rintro e u1 ⟨rfl, hbu1⟩; have hhu1 : Held w Bc Bs (Bs + 1 + 1) (Bs + 1) (.cells #[.int .i64 b, .int .i64 lo, .int .i64 hi] 25) (.cells #[.int .i64 o, .int .i64 f] 57) (.cells #[.int .i64 sl, .int .i64 sh] 23) (.cells #[.int .i64 0, .int .i64 0] 23) 23 u1 := Held.lift (And.right (And.right (And.right (And.right (And.right (by assumption)))))) hbu1; obtain ⟨x9, y9, hz9⟩ := Held.box hhu1; have z0 := heap_cell hz9 (j := 0) rfl; have z1 := heap_cell hz9 (j := 1) rfl; have y0 := heap_frozen hz9 0; have y1 := heap_frozen hz9 1; have HZ9 := Lib.hid hz9; clear hz9))
      all_goals
        go_wp2_with fail
        go_meet
        have hall := Held.all hhu1
        exact ⟨rfl, heap_far2 (by omega) hall.1 _ _, heap_far2 (by omega) hall.2.1 _ _, heap_far2 (by omega) hall.2.2.1 _ _, heap_two HZ9.out _ _, heap_far2 (by omega) hall.2.2.2.1 _ _, below_set2 hall.2.2.2.2 (by omega) _ _⟩
  case rest =>
    obtain ⟨v3, rfl⟩ : ∃ x, x = wc := ⟨_, rfl⟩
    obtain ⟨rfl, h1, h2, h3, h4, h5, h6⟩ := hcut
    replace HC := Lib.hid h1
    replace HD := Lib.hid h2
    replace HX := Lib.hid h3
    replace HY := Lib.hid h4
    replace HZ := Lib.hid h5
    replace HB := Lib.hid h6
    clear h1 h2 h3 h4 h5 h6 HK HH hlt
    as_aux_lemma =>
      go_wp2_with fail
      have HK : Hid (∀ v : World, Held w Bc Bs (Bs + 1) (Bs + 1 + 1) (.cells #[.int .i64 b, .int .i64 lo, .int .i64 hi] 25) (.cells #[.int .i64 o, .int .i64 f] 57) (.cells #[.int .i64 sl, .int .i64 sh] 23) (.cells #[.int .i64 s1l, .int .i64 s1h] 23) 23 v → (v.cell? ⟨Bc, 0, none⟩ = some (.int .i64 b) ∧ v.cell? ⟨Bc, 1, none⟩ = some (.int .i64 lo) ∧ v.cell? ⟨Bc, 2, none⟩ = some (.int .i64 hi) ∧ v.cell? ⟨(Bc + 1), 0, none⟩ = some (.int .i64 o) ∧ v.cell? ⟨(Bc + 1), 1, none⟩ = some (.int .i64 f) ∧ Held w Bc Bs (Bs + 1) (Bs + 1 + 1) (.cells #[.int .i64 b, .int .i64 lo, .int .i64 hi] 25) (.cells #[.int .i64 o, .int .i64 f] 57) (.cells #[.int .i64 sl, .int .i64 sh] 23) (.cells #[.int .i64 s1l, .int .i64 s1h] 23) 23 v)) := Lib.hid (fun v k => ⟨heap_cell k.1 (j := 0) rfl, heap_cell k.1 (j := 1) rfl, heap_cell k.1 (j := 2) rfl, heap_cell k.2.1 (j := 0) rfl, heap_cell k.2.1 (j := 1) rfl, k⟩)
      have HH : Hid (Held w Bc Bs (Bs + 1) (Bs + 1 + 1) (.cells #[.int .i64 b, .int .i64 lo, .int .i64 hi] 25) (.cells #[.int .i64 o, .int .i64 f] 57) (.cells #[.int .i64 sl, .int .i64 sh] 23) (.cells #[.int .i64 s1l, .int .i64 s1h] 23) 23 v3) := Lib.hid ⟨HC.out, HD.out, HX.out, HY.out, ⟨_, _, HZ.out⟩, HB.out⟩
      have hlt := HLT.out
      go_cut [12] (fun s wx => s = .int .i64 e2 ∧ wx.heap[Bc]? = some (.cells #[.int .i64 b, .int .i64 lo, .int .i64 hi] 25) ∧ wx.heap[Bc + 1]? = some (.cells #[.int .i64 o, .int .i64 f] 57) ∧ wx.heap[Bs]? = some (.cells #[.int .i64 sl, .int .i64 sh] 23) ∧ wx.heap[Bs + 1]? = some (.cells #[.int .i64 s1l, .int .i64 s1h] 23) ∧ wx.heap[Bs + 1 + 1]? = some (.cells #[.int .i64 s2l, .int .i64 s2h] 23) ∧ Below w.heap.size w wx)
      case first =>
        as_aux_lemma =>
          go_region_held3 (fun v => v.cell? ⟨Bc, 0, none⟩ = some (.int .i64 b) ∧ v.cell? ⟨Bc, 1, none⟩ = some (.int .i64 lo) ∧ v.cell? ⟨Bc, 2, none⟩ = some (.int .i64 hi) ∧ v.cell? ⟨(Bc + 1), 0, none⟩ = some (.int .i64 o) ∧ v.cell? ⟨(Bc + 1), 1, none⟩ = some (.int .i64 f) ∧ Held w Bc Bs (Bs + 1) (Bs + 1 + 1) (.cells #[.int .i64 b, .int .i64 lo, .int .i64 hi] 25) (.cells #[.int .i64 o, .int .i64 f] 57) (.cells #[.int .i64 sl, .int .i64 sh] 23) (.cells #[.int .i64 s1l, .int .i64 s1h] 23) 23 v)
            (first | exact HK.out _ (HH.out.lift (Below.refl _ _).drew) | with_reducible exact HK.out _ hhu1 | with_reducible exact HK.out _ hhu0 | with_reducible exact HK.out _ (hhu1.set (by omega) (by omega) (by omega) (by omega) (by omega) _ _))
            (first
              | (go_at_call 26; with_reducible refine (drawn_any _ _ _).mono ?_; rintro e u0 ⟨rfl, hbu0⟩; have hhu0 : Held w Bc Bs (Bs + 1) (Bs + 1 + 1) (.cells #[.int .i64 b, .int .i64 lo, .int .i64 hi] 25) (.cells #[.int .i64 o, .int .i64 f] 57) (.cells #[.int .i64 sl, .int .i64 sh] 23) (.cells #[.int .i64 s1l, .int .i64 s1h] 23) 23 u0 := Held.lift (And.right (And.right (And.right (And.right (And.right (by assumption)))))) hbu0)
              | (go_at_call 24; with_reducible refine (canV hs2l hs2h he2 _).mono ?_; rintro e u1 ⟨rfl, hbu1⟩; have hhu1 : Held w Bc Bs (Bs + 1) (Bs + 1 + 1) (.cells #[.int .i64 b, .int .i64 lo, .int .i64 hi] 25) (.cells #[.int .i64 o, .int .i64 f] 57) (.cells #[.int .i64 sl, .int .i64 sh] 23) (.cells #[.int .i64 s1l, .int .i64 s1h] 23) 23 u1 := Held.lift (And.right (And.right (And.right (And.right (And.right (by assumption)))))) hbu1; obtain ⟨x9, y9, hz9⟩ := Held.box hhu1; have z0 := heap_cell hz9 (j := 0) rfl; have z1 := heap_cell hz9 (j := 1) rfl; have y0 := heap_frozen hz9 0; have y1 := heap_frozen hz9 1; have HZ9 := Lib.hid hz9; clear hz9))
          all_goals
            go_wp2_with fail
            go_meet
            have hall := Held.all hhu1
            exact ⟨rfl, heap_far2 (by omega) hall.1 _ _, heap_far2 (by omega) hall.2.1 _ _, heap_far2 (by omega) hall.2.2.1 _ _, heap_far2 (by omega) hall.2.2.2.1 _ _, heap_two HZ9.out _ _, below_set2 hall.2.2.2.2 (by omega) _ _⟩
      case rest =>
        obtain ⟨v4, rfl⟩ : ∃ x, x = wc := ⟨_, rfl⟩
        obtain ⟨rfl, h1, h2, h3, h4, h5, h6⟩ := hcut
        replace HC := Lib.hid h1
        replace HD := Lib.hid h2
        replace HX := Lib.hid h3
        replace HY := Lib.hid h4
        replace HZ := Lib.hid h5
        replace HB := Lib.hid h6
        clear h1 h2 h3 h4 h5 h6 HK HH hlt
        as_aux_lemma =>
          have c1 := heap_cell HC.out (j := 1) rfl
          go_wp2_with fail
          clear c1
          clear t1 t2
          go_loopw [13] (fun i wr => ∃ k : Nat, lo + k ≤ hi + 1 ∧ i = .int .i64 (lo + k) ∧ Below v4.heap.size v4 wr) (fun i _ => (hi + 1 - intOf i).toNat)
          case atStart => exact ⟨0, by omega, by simp, Below.refl _ _⟩
          case round =>
            obtain ⟨k, hk, rfl, hbr⟩ := hrel
            have HBR := Lib.hid hbr
            replace HC := Lib.hid (heap_lift HC.out hbr)
            replace HD := Lib.hid (heap_lift HD.out hbr)
            replace HX := Lib.hid (heap_lift HX.out hbr)
            replace HY := Lib.hid (heap_lift HY.out hbr)
            replace HZ := Lib.hid (heap_lift HZ.out hbr)
            obtain ⟨n, hn⟩ : ∃ n, lo + (k : Int) = n := ⟨_, rfl⟩
            have n0 : lo ≤ n := by omega
            have n1 : n ≤ hi + 1 := by omega
            have HN := Lib.hid hn
            have HNS : Hid (lo + ((k + 1 : Nat) : Int) = n + 1) := Lib.hid (by rw [← hn]; omega)
            rw [hn]
            clear hbr hn hk
            by_cases hk1 : n ≤ hi
            · obtain ⟨M, hM⟩ : ∃ M, Pure.ways b n o f = M := ⟨_, rfl⟩
              have m0 : 0 ≤ M := by rw [← hM]; exact Pure.ways_nonneg _ _ _ _
              have HV : Hid (partV (Pure.ways b n o f) (Pure.sets b o) = .agg #[.int .i64 (M / Pure.gcd M S), .int .i64 (S / Pure.gcd M S)]) := Lib.hid (by rw [hM, hS.out])
              obtain ⟨hp1, hp2⟩ := low_pos (pn := M / Pure.gcd M S) (pd := S / Pure.gcd M S) m0 s0 rfl
              obtain ⟨pn, hpn⟩ : ∃ pn, M / Pure.gcd M S = pn := ⟨_, rfl⟩
              obtain ⟨pd, hpd⟩ : ∃ pd, S / Pure.gcd M S = pd := ⟨_, rfl⟩
              rw [hpn, hpd] at HV
              rw [hpn] at hp1 hp2
              have hI1 := hI.out n n0 hk1
              rw [hM] at hI1
              have hJ1 := hJ.out n n0 hk1
              clear hM hpn hpd
              have c0 := heap_cell HC.out (j := 0) rfl
              have c1 := heap_cell HC.out (j := 1) rfl
              have c2 := heap_cell HC.out (j := 2) rfl
              have g0 := heap_cell HD.out (j := 0) rfl
              have g1 := heap_cell HD.out (j := 1) rfl
              go_wp2_with fail
              refine (chanceV hc.out n0 hk1 o0 o1 f0 f1 HV _).mono ?_
              rintro e y1 ⟨rfl, hb1⟩
              have hb2 := hb1.alloc hb1.size (.cells #[.int .i64 pn, .int .i64 pd] 31)
              replace HC := Lib.hid (heap_lift HC.out hb2)
              replace HD := Lib.hid (heap_lift HD.out hb2)
              replace HX := Lib.hid (heap_lift HX.out hb2)
              replace HY := Lib.hid (heap_lift HY.out hb2)
              replace HZ := Lib.hid (heap_lift HZ.out hb2)
              replace HBR := Lib.hid (below_then HBR.out hb2)
              have hx := heap_top y1 (.cells #[.int .i64 pn, .int .i64 pd] 31) rfl
              obtain ⟨Bp, hBp⟩ : ∃ B, y1.heap.size = B := ⟨_, rfl⟩
              obtain ⟨y2, hy2⟩ : ∃ v, y1.alloc (.cells #[.int .i64 pn, .int .i64 pd] 31) = v := ⟨_, rfl⟩
              rw [hBp] at hx
              rw [hy2] at HC HD HX HY HZ HBR hx
              have HP := Lib.hid hx
              clear hb1 hb2 hx c0 c1 c2 g0 g1
              go_wp2_with fail
              clear hBp hy2
              have HK : Hid (∀ v : World, Below y2.heap.size y2 v → (v.cell? ⟨Bs, 0, none⟩ = some (.int .i64 sl) ∧ v.cell? ⟨Bs, 1, none⟩ = some (.int .i64 sh) ∧ v.cell? ⟨Bp, 0, none⟩ = some (.int .i64 pn) ∧ Below y2.heap.size y2 v)) :=
                Lib.hid (fun v k => ⟨below_cell k (heap_cell HX.out (j := 0) rfl), below_cell k (heap_cell HX.out (j := 1) rfl), below_cell k (heap_cell HP.out (j := 0) rfl), k⟩)
              go_cut [134] from 109 to 159 (fun s wx => s = .bool false ∧ Below y2.heap.size y2 wx)
              case first =>
                by_cases hm : 0 < M
                · have hB : Hid (isV sl sh 0 n = true) := Lib.hid (by rw [hI1, decide_eq_true hm])
                  have hpp := hp1 hm
                  as_aux_lemma =>
                    have xx0 : ∀ x : Among (Below y2.heap.size y2), x.val.cell? ⟨Bs, 0, none⟩ = some (.int .i64 sl) := fun x => below_cell x.ok (heap_cell HX.out (j := 0) rfl)
                    have xx1 : ∀ x : Among (Below y2.heap.size y2), x.val.cell? ⟨Bs, 1, none⟩ = some (.int .i64 sh) := fun x => below_cell x.ok (heap_cell HX.out (j := 1) rfl)
                    have xx2 : ∀ x : Among (Below y2.heap.size y2), x.val.cell? ⟨Bp, 0, none⟩ = some (.int .i64 pn) := fun x => below_cell x.ok (heap_cell HP.out (j := 0) rfl)
                    have HD1 : Hid (∀ x : Among (Below y2.heap.size y2), Calls Try.prog 25 #[.agg #[.int .i64 sl, .int .i64 sh], .int .i64 0, .int .i64 n] x.val fun e w' => e = .returned (.bool true) ∧ ∃ y : Among (Below y2.heap.size y2), w' = y.val) := Lib.hid (fun x => calls_class ((is_any _ _ _ _ hB x.val).mono fun e w' h => ⟨h.1, below_then x.ok h.2⟩))
                    have HSt : Hid (Below y2.heap.size y2 y2.drew) := Lib.hid (Below.refl _ _).drew
                    have hne : Nonempty (Among (Below y2.heap.size y2)) := ⟨⟨_, HSt.out⟩⟩
                    refine wp_region_class (Below y2.heap.size y2) (by kernel_rfl) (by kernel_rfl) HSt.out ?_
                    repeat (go_big_quiet_step ((first | (go_at_call 25; with_reducible exact HD1.out _))))
                    refine wpQuiet_nil ?_
                    intro w8 hx
                    have hB8 := among_out hx
                    clear hx
                    have HB8 := Lib.hid hB8
                    clear hB8 hne xx0 xx1 xx2
                    go_wp2_with fail
                    go_meet
                    exact ⟨rfl, HB8.out⟩
                · have hB : Hid (isV sl sh 0 n = false) := Lib.hid (by rw [hI1, decide_eq_false hm])
                  have hpp : pn ≤ 0 := by have := hp2 (by omega); omega
                  have hpd' : decide (0 < pn) = false := decide_eq_false (by omega)
                  as_aux_lemma =>
                    have xx0 : ∀ x : Among (Below y2.heap.size y2), x.val.cell? ⟨Bs, 0, none⟩ = some (.int .i64 sl) := fun x => below_cell x.ok (heap_cell HX.out (j := 0) rfl)
                    have xx1 : ∀ x : Among (Below y2.heap.size y2), x.val.cell? ⟨Bs, 1, none⟩ = some (.int .i64 sh) := fun x => below_cell x.ok (heap_cell HX.out (j := 1) rfl)
                    have xx2 : ∀ x : Among (Below y2.heap.size y2), x.val.cell? ⟨Bp, 0, none⟩ = some (.int .i64 pn) := fun x => below_cell x.ok (heap_cell HP.out (j := 0) rfl)
                    have HD1 : Hid (∀ x : Among (Below y2.heap.size y2), Calls Try.prog 25 #[.agg #[.int .i64 sl, .int .i64 sh], .int .i64 0, .int .i64 n] x.val fun e w' => e = .returned (.bool false) ∧ ∃ y : Among (Below y2.heap.size y2), w' = y.val) := Lib.hid (fun x => calls_class ((is_any _ _ _ _ hB x.val).mono fun e w' h => ⟨h.1, below_then x.ok h.2⟩))
                    have HSt : Hid (Below y2.heap.size y2 y2.drew) := Lib.hid (Below.refl _ _).drew
                    have hne : Nonempty (Among (Below y2.heap.size y2)) := ⟨⟨_, HSt.out⟩⟩
                    refine wp_region_class (Below y2.heap.size y2) (by kernel_rfl) (by kernel_rfl) HSt.out ?_
                    repeat (go_big_quiet_step ((first | (go_at_call 25; with_reducible exact HD1.out _))))
                    refine wpQuiet_nil ?_
                    intro w8 hx
                    have hB8 := among_out hx
                    clear hx
                    have HB8 := Lib.hid hB8
                    clear hB8 hne xx0 xx1 xx2
                    go_wp2_with fail
                    go_meet
                    exact ⟨rfl, HB8.out⟩
              case rest =>
                obtain ⟨y3, rfl⟩ : ∃ x, x = wc := ⟨_, rfl⟩
                obtain ⟨rfl, hbc⟩ := hcut
                clear HK
                replace HC := Lib.hid (heap_lift HC.out hbc)
                replace HD := Lib.hid (heap_lift HD.out hbc)
                replace HX := Lib.hid (heap_lift HX.out hbc)
                replace HY := Lib.hid (heap_lift HY.out hbc)
                replace HZ := Lib.hid (heap_lift HZ.out hbc)
                replace HBR := Lib.hid (below_then HBR.out hbc)
                clear hbc HP
                go_wp2_with fail
                have HK : Hid (∀ v : World, Below y3.heap.size y3 v → (v.cell? ⟨Bs, 0, none⟩ = some (.int .i64 sl) ∧ v.cell? ⟨Bs, 1, none⟩ = some (.int .i64 sh) ∧ v.cell? ⟨(Bc + 1), 0, none⟩ = some (.int .i64 o) ∧ v.cell? ⟨Bc, 0, none⟩ = some (.int .i64 b) ∧ v.cell? ⟨(Bs + 1), 0, none⟩ = some (.int .i64 s1l) ∧ v.cell? ⟨(Bs + 1), 1, none⟩ = some (.int .i64 s1h) ∧ v.cell? ⟨(Bs + 1 + 1), 0, none⟩ = some (.int .i64 s2l) ∧ v.cell? ⟨(Bs + 1 + 1), 1, none⟩ = some (.int .i64 s2h) ∧ Below y3.heap.size y3 v)) :=
                  Lib.hid (fun v k => ⟨below_cell k (heap_cell HX.out (j := 0) rfl), below_cell k (heap_cell HX.out (j := 1) rfl), below_cell k (heap_cell HD.out (j := 0) rfl), below_cell k (heap_cell HC.out (j := 0) rfl), below_cell k (heap_cell HY.out (j := 0) rfl), below_cell k (heap_cell HY.out (j := 1) rfl), below_cell k (heap_cell HZ.out (j := 0) rfl), below_cell k (heap_cell HZ.out (j := 1) rfl), k⟩)
                go_cut [159] from 109 to 159 (fun s wx => s = .bool false ∧ Below y3.heap.size y3 wx)
                case first =>
                  have hob3 : decide (o < b) = true := decide_eq_true hob
                  cases e1' : isV s1l s1h e1 n with
                  | true =>
                    have hB1 := Lib.hid e1'
                    have hB : Hid (isV sl sh 0 n = true) := Lib.hid (by rw [hJ1, e1']; rfl)
                    clear e1'
                    as_aux_lemma =>
                      have xx0 : ∀ x : Among (Below y3.heap.size y3), x.val.cell? ⟨Bs, 0, none⟩ = some (.int .i64 sl) := fun x => below_cell x.ok (heap_cell HX.out (j := 0) rfl)
                      have xx1 : ∀ x : Among (Below y3.heap.size y3), x.val.cell? ⟨Bs, 1, none⟩ = some (.int .i64 sh) := fun x => below_cell x.ok (heap_cell HX.out (j := 1) rfl)
                      have xx2 : ∀ x : Among (Below y3.heap.size y3), x.val.cell? ⟨(Bc + 1), 0, none⟩ = some (.int .i64 o) := fun x => below_cell x.ok (heap_cell HD.out (j := 0) rfl)
                      have xx3 : ∀ x : Among (Below y3.heap.size y3), x.val.cell? ⟨Bc, 0, none⟩ = some (.int .i64 b) := fun x => below_cell x.ok (heap_cell HC.out (j := 0) rfl)
                      have xx4 : ∀ x : Among (Below y3.heap.size y3), x.val.cell? ⟨(Bs + 1), 0, none⟩ = some (.int .i64 s1l) := fun x => below_cell x.ok (heap_cell HY.out (j := 0) rfl)
                      have xx5 : ∀ x : Among (Below y3.heap.size y3), x.val.cell? ⟨(Bs + 1), 1, none⟩ = some (.int .i64 s1h) := fun x => below_cell x.ok (heap_cell HY.out (j := 1) rfl)
                      have xx6 : ∀ x : Among (Below y3.heap.size y3), x.val.cell? ⟨(Bs + 1 + 1), 0, none⟩ = some (.int .i64 s2l) := fun x => below_cell x.ok (heap_cell HZ.out (j := 0) rfl)
                      have xx7 : ∀ x : Among (Below y3.heap.size y3), x.val.cell? ⟨(Bs + 1 + 1), 1, none⟩ = some (.int .i64 s2h) := fun x => below_cell x.ok (heap_cell HZ.out (j := 1) rfl)
                      have HD1 : Hid (∀ x : Among (Below y3.heap.size y3), Calls Try.prog 25 #[.agg #[.int .i64 sl, .int .i64 sh], .int .i64 0, .int .i64 n] x.val fun e w' => e = .returned (.bool true) ∧ ∃ y : Among (Below y3.heap.size y3), w' = y.val) := Lib.hid (fun x => calls_class ((is_any _ _ _ _ hB x.val).mono fun e w' h => ⟨h.1, below_then x.ok h.2⟩))
                      have HD2 : Hid (∀ x : Among (Below y3.heap.size y3), Calls Try.prog 25 #[.agg #[.int .i64 s1l, .int .i64 s1h], .int .i64 e1, .int .i64 n] x.val fun e w' => e = .returned (.bool true) ∧ ∃ y : Among (Below y3.heap.size y3), w' = y.val) := Lib.hid (fun x => calls_class ((is_any _ _ _ _ hB1 x.val).mono fun e w' h => ⟨h.1, below_then x.ok h.2⟩))
                      have HSt : Hid (Below y3.heap.size y3 y3.drew) := Lib.hid (Below.refl _ _).drew
                      have hne : Nonempty (Among (Below y3.heap.size y3)) := ⟨⟨_, HSt.out⟩⟩
                      refine wp_region_class (Below y3.heap.size y3) (by kernel_rfl) (by kernel_rfl) HSt.out ?_
                      repeat (go_big_quiet_step ((first | (go_at_call 25; first | with_reducible exact HD1.out _ | with_reducible exact HD2.out _))))
                      refine wpQuiet_nil ?_
                      intro w8 hx
                      have hB8 := among_out hx
                      clear hx
                      have HB8 := Lib.hid hB8
                      clear hB8 hne xx0 xx1 xx2 xx3 xx4 xx5 xx6 xx7
                      go_wp2_with fail
                      go_meet
                      exact ⟨rfl, HB8.out⟩
                  | false =>
                    have hB1 := Lib.hid e1'
                    cases e2' : isV s2l s2h e2 n with
                    | true =>
                      have hB2 := Lib.hid e2'
                      have hB : Hid (isV sl sh 0 n = true) := Lib.hid (by rw [hJ1, e1', e2']; rfl)
                      clear e1' e2'
                      as_aux_lemma =>
                        have xx0 : ∀ x : Among (Below y3.heap.size y3), x.val.cell? ⟨Bs, 0, none⟩ = some (.int .i64 sl) := fun x => below_cell x.ok (heap_cell HX.out (j := 0) rfl)
                        have xx1 : ∀ x : Among (Below y3.heap.size y3), x.val.cell? ⟨Bs, 1, none⟩ = some (.int .i64 sh) := fun x => below_cell x.ok (heap_cell HX.out (j := 1) rfl)
                        have xx2 : ∀ x : Among (Below y3.heap.size y3), x.val.cell? ⟨(Bc + 1), 0, none⟩ = some (.int .i64 o) := fun x => below_cell x.ok (heap_cell HD.out (j := 0) rfl)
                        have xx3 : ∀ x : Among (Below y3.heap.size y3), x.val.cell? ⟨Bc, 0, none⟩ = some (.int .i64 b) := fun x => below_cell x.ok (heap_cell HC.out (j := 0) rfl)
                        have xx4 : ∀ x : Among (Below y3.heap.size y3), x.val.cell? ⟨(Bs + 1), 0, none⟩ = some (.int .i64 s1l) := fun x => below_cell x.ok (heap_cell HY.out (j := 0) rfl)
                        have xx5 : ∀ x : Among (Below y3.heap.size y3), x.val.cell? ⟨(Bs + 1), 1, none⟩ = some (.int .i64 s1h) := fun x => below_cell x.ok (heap_cell HY.out (j := 1) rfl)
                        have xx6 : ∀ x : Among (Below y3.heap.size y3), x.val.cell? ⟨(Bs + 1 + 1), 0, none⟩ = some (.int .i64 s2l) := fun x => below_cell x.ok (heap_cell HZ.out (j := 0) rfl)
                        have xx7 : ∀ x : Among (Below y3.heap.size y3), x.val.cell? ⟨(Bs + 1 + 1), 1, none⟩ = some (.int .i64 s2h) := fun x => below_cell x.ok (heap_cell HZ.out (j := 1) rfl)
                        have HD1 : Hid (∀ x : Among (Below y3.heap.size y3), Calls Try.prog 25 #[.agg #[.int .i64 sl, .int .i64 sh], .int .i64 0, .int .i64 n] x.val fun e w' => e = .returned (.bool true) ∧ ∃ y : Among (Below y3.heap.size y3), w' = y.val) := Lib.hid (fun x => calls_class ((is_any _ _ _ _ hB x.val).mono fun e w' h => ⟨h.1, below_then x.ok h.2⟩))
                        have HD2 : Hid (∀ x : Among (Below y3.heap.size y3), Calls Try.prog 25 #[.agg #[.int .i64 s1l, .int .i64 s1h], .int .i64 e1, .int .i64 n] x.val fun e w' => e = .returned (.bool false) ∧ ∃ y : Among (Below y3.heap.size y3), w' = y.val) := Lib.hid (fun x => calls_class ((is_any _ _ _ _ hB1 x.val).mono fun e w' h => ⟨h.1, below_then x.ok h.2⟩))
                        have HD3 : Hid (∀ x : Among (Below y3.heap.size y3), Calls Try.prog 25 #[.agg #[.int .i64 s2l, .int .i64 s2h], .int .i64 e2, .int .i64 n] x.val fun e w' => e = .returned (.bool true) ∧ ∃ y : Among (Below y3.heap.size y3), w' = y.val) := Lib.hid (fun x => calls_class ((is_any _ _ _ _ hB2 x.val).mono fun e w' h => ⟨h.1, below_then x.ok h.2⟩))
                        have HSt : Hid (Below y3.heap.size y3 y3.drew) := Lib.hid (Below.refl _ _).drew
                        have hne : Nonempty (Among (Below y3.heap.size y3)) := ⟨⟨_, HSt.out⟩⟩
                        refine wp_region_class (Below y3.heap.size y3) (by kernel_rfl) (by kernel_rfl) HSt.out ?_
                        repeat (go_big_quiet_step ((first | (go_at_call 25; first | with_reducible exact HD1.out _ | with_reducible exact HD2.out _ | with_reducible exact HD3.out _))))
                        refine wpQuiet_nil ?_
                        intro w8 hx
                        have hB8 := among_out hx
                        clear hx
                        have HB8 := Lib.hid hB8
                        clear hB8 hne xx0 xx1 xx2 xx3 xx4 xx5 xx6 xx7
                        go_wp2_with fail
                        go_meet
                        exact ⟨rfl, HB8.out⟩
                    | false =>
                      have hB2 := Lib.hid e2'
                      have hB : Hid (isV sl sh 0 n = false) := Lib.hid (by rw [hJ1, e1', e2']; rfl)
                      clear e1' e2'
                      as_aux_lemma =>
                        have xx0 : ∀ x : Among (Below y3.heap.size y3), x.val.cell? ⟨Bs, 0, none⟩ = some (.int .i64 sl) := fun x => below_cell x.ok (heap_cell HX.out (j := 0) rfl)
                        have xx1 : ∀ x : Among (Below y3.heap.size y3), x.val.cell? ⟨Bs, 1, none⟩ = some (.int .i64 sh) := fun x => below_cell x.ok (heap_cell HX.out (j := 1) rfl)
                        have xx2 : ∀ x : Among (Below y3.heap.size y3), x.val.cell? ⟨(Bc + 1), 0, none⟩ = some (.int .i64 o) := fun x => below_cell x.ok (heap_cell HD.out (j := 0) rfl)
                        have xx3 : ∀ x : Among (Below y3.heap.size y3), x.val.cell? ⟨Bc, 0, none⟩ = some (.int .i64 b) := fun x => below_cell x.ok (heap_cell HC.out (j := 0) rfl)
                        have xx4 : ∀ x : Among (Below y3.heap.size y3), x.val.cell? ⟨(Bs + 1), 0, none⟩ = some (.int .i64 s1l) := fun x => below_cell x.ok (heap_cell HY.out (j := 0) rfl)
                        have xx5 : ∀ x : Among (Below y3.heap.size y3), x.val.cell? ⟨(Bs + 1), 1, none⟩ = some (.int .i64 s1h) := fun x => below_cell x.ok (heap_cell HY.out (j := 1) rfl)
                        have xx6 : ∀ x : Among (Below y3.heap.size y3), x.val.cell? ⟨(Bs + 1 + 1), 0, none⟩ = some (.int .i64 s2l) := fun x => below_cell x.ok (heap_cell HZ.out (j := 0) rfl)
                        have xx7 : ∀ x : Among (Below y3.heap.size y3), x.val.cell? ⟨(Bs + 1 + 1), 1, none⟩ = some (.int .i64 s2h) := fun x => below_cell x.ok (heap_cell HZ.out (j := 1) rfl)
                        have HD1 : Hid (∀ x : Among (Below y3.heap.size y3), Calls Try.prog 25 #[.agg #[.int .i64 sl, .int .i64 sh], .int .i64 0, .int .i64 n] x.val fun e w' => e = .returned (.bool false) ∧ ∃ y : Among (Below y3.heap.size y3), w' = y.val) := Lib.hid (fun x => calls_class ((is_any _ _ _ _ hB x.val).mono fun e w' h => ⟨h.1, below_then x.ok h.2⟩))
                        have HD2 : Hid (∀ x : Among (Below y3.heap.size y3), Calls Try.prog 25 #[.agg #[.int .i64 s1l, .int .i64 s1h], .int .i64 e1, .int .i64 n] x.val fun e w' => e = .returned (.bool false) ∧ ∃ y : Among (Below y3.heap.size y3), w' = y.val) := Lib.hid (fun x => calls_class ((is_any _ _ _ _ hB1 x.val).mono fun e w' h => ⟨h.1, below_then x.ok h.2⟩))
                        have HD3 : Hid (∀ x : Among (Below y3.heap.size y3), Calls Try.prog 25 #[.agg #[.int .i64 s2l, .int .i64 s2h], .int .i64 e2, .int .i64 n] x.val fun e w' => e = .returned (.bool false) ∧ ∃ y : Among (Below y3.heap.size y3), w' = y.val) := Lib.hid (fun x => calls_class ((is_any _ _ _ _ hB2 x.val).mono fun e w' h => ⟨h.1, below_then x.ok h.2⟩))
                        have HSt : Hid (Below y3.heap.size y3 y3.drew) := Lib.hid (Below.refl _ _).drew
                        have hne : Nonempty (Among (Below y3.heap.size y3)) := ⟨⟨_, HSt.out⟩⟩
                        refine wp_region_class (Below y3.heap.size y3) (by kernel_rfl) (by kernel_rfl) HSt.out ?_
                        repeat (go_big_quiet_step ((first | (go_at_call 25; first | with_reducible exact HD1.out _ | with_reducible exact HD2.out _ | with_reducible exact HD3.out _))))
                        refine wpQuiet_nil ?_
                        intro w8 hx
                        have hB8 := among_out hx
                        clear hx
                        have HB8 := Lib.hid hB8
                        clear hB8 hne xx0 xx1 xx2 xx3 xx4 xx5 xx6 xx7
                        go_wp2_with fail
                        go_meet
                        exact ⟨rfl, HB8.out⟩
                case rest =>
                  obtain ⟨y4, rfl⟩ : ∃ x, x = wc := ⟨_, rfl⟩
                  obtain ⟨rfl, hbc⟩ := hcut
                  clear HK
                  replace HC := Lib.hid (heap_lift HC.out hbc)
                  replace HD := Lib.hid (heap_lift HD.out hbc)
                  replace HBR := Lib.hid (below_then HBR.out hbc)
                  clear hbc HX HY HZ hI1 hp1 hp2 hJ1
                  go_wp2_with fail
                  go_roundw
                  case rel => exact ⟨k + 1, by rw [HNS.out]; omega, by rw [HNS.out], HBR.out⟩
                  case measure => (simp [intOf] <;> omega)
            · obtain rfl : n = hi + 1 := by omega
              replace HB := Lib.hid (below_then HB.out HBR.out)
              clear HBR HY HZ HN HNS
              have c0 := heap_cell HC.out (j := 0) rfl
              have c1 := heap_cell HC.out (j := 1) rfl
              have c2 := heap_cell HC.out (j := 2) rfl
              have g0 := heap_cell HD.out (j := 0) rfl
              have g1 := heap_cell HD.out (j := 1) rfl
              go_wp2_with fail
              refine (restV hrb hrl hrh hre _).mono ?_
              rintro e r1 ⟨rfl, hb1⟩
              replace HC := Lib.hid (heap_lift HC.out hb1)
              replace HD := Lib.hid (heap_lift HD.out hb1)
              replace HX := Lib.hid (heap_lift HX.out hb1)
              replace HB := Lib.hid (below_then HB.out hb1)
              clear hb1 c0 c1 c2 g0 g1
              go_upto_region 22 with fail
              have hb2 : Below r1.heap.size r1 (r1.alloc (.cells #[.int .i64 (b - o), .int .i64 (sl - f), .int .i64 (sh - f)] 25)) := (Below.refl _ _).alloc (Nat.le_refl _) _
              replace HC := Lib.hid (heap_lift HC.out hb2)
              replace HD := Lib.hid (heap_lift HD.out hb2)
              replace HX := Lib.hid (heap_lift HX.out hb2)
              replace HB := Lib.hid (below_then HB.out hb2)
              have hx := heap_top r1 (.cells #[.int .i64 (b - o), .int .i64 (sl - f), .int .i64 (sh - f)] 25) rfl
              obtain ⟨Br, hBr⟩ : ∃ B, r1.heap.size = B := ⟨_, rfl⟩
              obtain ⟨r2, hr2⟩ : ∃ v, r1.alloc (.cells #[.int .i64 (b - o), .int .i64 (sl - f), .int .i64 (sh - f)] 25) = v := ⟨_, rfl⟩
              rw [hBr] at hx
              rw [hr2] at HC HD HX HB hx
              rw [hr2, hBr]
              have HR := Lib.hid hx
              clear hb2 hx hBr hr2
              have c0 := heap_cell HC.out (j := 0) rfl
              have c1 := heap_cell HC.out (j := 1) rfl
              have c2 := heap_cell HC.out (j := 2) rfl
              have g0 := heap_cell HD.out (j := 0) rfl
              have g1 := heap_cell HD.out (j := 1) rfl
              have k0 := heap_cell HX.out (j := 0) rfl
              have k1 := heap_cell HX.out (j := 1) rfl
              have m0 := heap_cell HR.out (j := 0) rfl
              have m1 := heap_cell HR.out (j := 1) rfl
              have m2 := heap_cell HR.out (j := 2) rfl
              have hob4 : (o == b) = false := by simp; omega
              go_wp2_with fail
              refine (checkOk hrc.out _).mono ?_
              rintro e r3 ⟨rfl, hb⟩
              replace HB := Lib.hid (below_then HB.out hb)
              clear hb c0 c1 c2 g0 g1 k0 k1 m0 m1 m2 HR
              go_wp2_with fail
              go_ret
              exact ⟨rfl, HB.out⟩

set_option maxHeartbeats 16000000 in
set_option maxRecDepth 100000 in
theorem can_yes_eq (b lo hi o f sl sh S : Int) (hc : Hid (Pure.okCargo b lo hi = true)) (hdr : Hid (Pure.okDraw b o f = true)) (b1 : 1 ≤ b) (b2 : b ≤ 36) (l0 : 0 ≤ lo) (l1 : lo ≤ hi) (hbb : hi ≤ b) (o0 : 0 ≤ o) (o1 : o ≤ b) (f0 : 0 ≤ f) (f1 : f ≤ o)
    (hsl : Hid (Pure.pick (Pure.canE b lo hi o f) (Pure.fst b (Pure.nums b.toNat lo hi o f)) = sl)) (hsh : Hid (Pure.pick (Pure.canE b lo hi o f) (Pure.lst (Pure.nums b.toNat lo hi o f)) = sh)) (hec : Hid (Pure.canE b lo hi o f = 0))
    (a1 : lo ≤ sl) (a2 : sl ≤ sh) (a3 : sh ≤ hi) (f2 : f ≤ sl)
    (hob : Hid (o = b)) (hob1 : b ≤ o) (hsf : Hid (sl = f)) (hsg : Hid (sh = f))
    (hI : Hid (∀ n : Int, lo ≤ n → n ≤ hi → isV sl sh 0 n = decide (0 < Pure.ways b n o f))) (hS : Hid (Pure.sets b o = S)) (s0 : 0 < S)
    (hrb : Hid (Pure.pick (Pure.restE b lo hi o f) (b - o) = 0)) (hrl : Hid (Pure.pick (Pure.restE b lo hi o f) (Pure.fst b (Pure.nums b.toNat lo hi o f) - f) = 0)) (hrh : Hid (Pure.pick (Pure.restE b lo hi o f) (Pure.lst (Pure.nums b.toNat lo hi o f) - f) = 0)) (hre : Hid (Pure.restE b lo hi o f = 6)) (w : World) :
    Calls Try.prog 4 #[cargoV b lo hi, .agg #[.int .i64 o, .int .i64 f]] w fun e w' => e = .returned (.bool true) ∧ Below w.heap.size w w' := by
  go_enter Try.func4, Try.ntmps4
  go_wp2_with fail
  refine (alive_any _).mono ?_
  rintro e w1 ⟨rfl, hb1⟩
  have hcc := heap_lift (heap_up (heap_top w (.cells #[.int .i64 b, .int .i64 lo, .int .i64 hi] 25) rfl) (.cells #[.int .i64 o, .int .i64 f] 57)) hb1
  have hdd := heap_lift (heap_top (w.alloc (.cells #[.int .i64 b, .int .i64 lo, .int .i64 hi] 25)) (.cells #[.int .i64 o, .int .i64 f] 57) rfl) hb1
  have HC := Lib.hid hcc
  have HD := Lib.hid hdd
  have HB := Lib.hid (below_then (((Below.refl _ _).alloc (Nat.le_refl _) (.cells #[.int .i64 b, .int .i64 lo, .int .i64 hi] 25)).alloc (by simp) (.cells #[.int .i64 o, .int .i64 f] 57)) hb1)
  obtain ⟨Bc, hBc⟩ : ∃ Bc, w.heap.size = Bc := ⟨_, rfl⟩
  have hBd : (w.alloc (.cells #[.int .i64 b, .int .i64 lo, .int .i64 hi] 25)).heap.size = Bc + 1 := by rw [← hBc]; simp
  rw [hBd] at HD
  rw [hBc] at HC
  have c0 := heap_cell HC.out (j := 0) rfl
  have c1 := heap_cell HC.out (j := 1) rfl
  have c2 := heap_cell HC.out (j := 2) rfl
  have g0 := heap_cell HD.out (j := 0) rfl
  have g1 := heap_cell HD.out (j := 1) rfl
  clear hcc hdd hb1 hBd
  go_wp2_with fail
  clear hBc
  refine (rCargo_any b lo hi _).mono ?_
  rw [hc.out]
  rintro e w2 ⟨rfl, rfl⟩
  obtain ⟨w2, hw2⟩ : ∃ w2, w1.alloc (.cells #[.int .i64 b, .int .i64 lo, .int .i64 hi] 25) = w2 := ⟨_, rfl⟩
  replace HC := Lib.hid (heap_up HC.out (.cells #[.int .i64 b, .int .i64 lo, .int .i64 hi] 25))
  replace HD := Lib.hid (heap_up HD.out (.cells #[.int .i64 b, .int .i64 lo, .int .i64 hi] 25))
  replace HB := Lib.hid (HB.out.alloc HB.out.size (.cells #[.int .i64 b, .int .i64 lo, .int .i64 hi] 25))
  rw [hw2] at HC HD HB
  rw [hw2]
  clear c0 c1 c2 g0 g1 hw2
  have c0 := heap_cell HC.out (j := 0) rfl
  have c1 := heap_cell HC.out (j := 1) rfl
  have c2 := heap_cell HC.out (j := 2) rfl
  have g0 := heap_cell HD.out (j := 0) rfl
  have g1 := heap_cell HD.out (j := 1) rfl
  go_wp2_with fail
  refine (rDraw_any b lo hi o f _).mono ?_
  rw [hdr.out]
  rintro e w3 ⟨rfl, rfl⟩
  obtain ⟨w3, hw3⟩ : ∃ w3, (w2.alloc (.cells #[.int .i64 b, .int .i64 lo, .int .i64 hi] 25)).alloc (.cells #[.int .i64 o, .int .i64 f] 57) = w3 := ⟨_, rfl⟩
  have hb3 : Below w2.heap.size w2 w3 := by rw [← hw3]; exact ((Below.refl _ _).alloc (Nat.le_refl _) _).alloc (by simp) _
  replace HC := Lib.hid (heap_lift HC.out hb3)
  replace HD := Lib.hid (heap_lift HD.out hb3)
  replace HB := Lib.hid (HB.out.trans (hb3.mono HB.out.size))
  rw [hw3]
  clear hb3 hw3 c0 c1 c2 g0 g1
  have c0 := heap_cell HC.out (j := 0) rfl
  have c1 := heap_cell HC.out (j := 1) rfl
  have c2 := heap_cell HC.out (j := 2) rfl
  have g0 := heap_cell HD.out (j := 0) rfl
  have g1 := heap_cell HD.out (j := 1) rfl
  go_wp2_with fail
  refine (canV hsl hsh hec _).mono ?_
  rintro e v1 ⟨rfl, hb1⟩
  replace HC := Lib.hid (heap_lift HC.out hb1)
  replace HD := Lib.hid (heap_lift HD.out hb1)
  replace HB := Lib.hid (below_then HB.out hb1)
  clear hb1 c0 c1 c2 g0 g1
  go_upto_region 5 with fail
  have hb2 : Below v1.heap.size v1 (v1.alloc (.cells #[.int .i64 sl, .int .i64 sh] 23)) := (Below.refl _ _).alloc (Nat.le_refl _) (.cells #[.int .i64 sl, .int .i64 sh] 23)
  have hx := heap_top v1 (.cells #[.int .i64 sl, .int .i64 sh] 23) rfl
  have hlt : Bc + 1 < v1.heap.size ∧ w.heap.size ≤ v1.heap.size := ⟨(Array.getElem?_eq_some_iff.1 HD.out).1, HB.out.size⟩
  replace HC := Lib.hid (heap_lift HC.out hb2)
  replace HD := Lib.hid (heap_lift HD.out hb2)
  replace HB := Lib.hid (below_then HB.out hb2)
  obtain ⟨Bs, hBs⟩ : ∃ B, v1.heap.size = B := ⟨_, rfl⟩
  obtain ⟨v1', hv1'⟩ : ∃ v, v1.alloc (.cells #[.int .i64 sl, .int .i64 sh] 23) = v := ⟨_, rfl⟩
  have hsz : v1'.heap.size = Bs + 1 := by rw [← hv1', ← hBs]; simp
  rw [hBs] at hx hlt
  rw [hv1'] at HC HD HB hx
  rw [hv1', hBs]
  have HX := Lib.hid hx
  have HLT := Lib.hid hlt
  clear hb2 hx hlt hBs hv1'
  have c0 := heap_cell HC.out (j := 0) rfl
  have c1 := heap_cell HC.out (j := 1) rfl
  have c2 := heap_cell HC.out (j := 2) rfl
  have g0 := heap_cell HD.out (j := 0) rfl
  have g1 := heap_cell HD.out (j := 1) rfl
  have k0 := heap_cell HX.out (j := 0) rfl
  have k1 := heap_cell HX.out (j := 1) rfl
  go_upto_region 10 with fail
  have hy := heap_up (heap_top v1' (.cells #[.int .i64 0, .int .i64 0] 23) rfl) (.cells #[.int .i64 0, .int .i64 0] 23)
  have hz := heap_top (v1'.alloc (.cells #[.int .i64 0, .int .i64 0] 23)) (.cells #[.int .i64 0, .int .i64 0] 23) rfl
  have hb2 : Below v1'.heap.size v1' ((v1'.alloc (.cells #[.int .i64 0, .int .i64 0] 23)).alloc (.cells #[.int .i64 0, .int .i64 0] 23)) := ((Below.refl _ _).alloc (Nat.le_refl _) (.cells #[.int .i64 0, .int .i64 0] 23)).alloc (by simp) (.cells #[.int .i64 0, .int .i64 0] 23)
  replace HC := Lib.hid (heap_lift HC.out hb2)
  replace HD := Lib.hid (heap_lift HD.out hb2)
  replace HX := Lib.hid (heap_lift HX.out hb2)
  replace HB := Lib.hid (below_then HB.out hb2)
  have hB2 : (v1'.alloc (.cells #[.int .i64 0, .int .i64 0] 23)).heap.size = Bs + 1 + 1 := by simp [hsz]
  obtain ⟨v2, hv2⟩ : ∃ v, (v1'.alloc (.cells #[.int .i64 0, .int .i64 0] 23)).alloc (.cells #[.int .i64 0, .int .i64 0] 23) = v := ⟨_, rfl⟩
  rw [hsz] at hy
  rw [hB2] at hz
  rw [hv2] at HC HD HX HB hy hz
  have HY := Lib.hid hy
  have HZ := Lib.hid hz
  rw [hv2]
  try rw [hsz]
  clear hy hz hb2 hsz hB2 hv2 c0 c1 c2 g0 g1 k0 k1
  have c0 := heap_cell HC.out (j := 0) rfl
  have c1 := heap_cell HC.out (j := 1) rfl
  have c2 := heap_cell HC.out (j := 2) rfl
  have g0 := heap_cell HD.out (j := 0) rfl
  have g1 := heap_cell HD.out (j := 1) rfl
  go_upto_region 13 with fail
  clear c0 c1 c2 g0 g1
  have c1 := heap_cell HC.out (j := 1) rfl
  go_wp2_with fail
  clear c1
  go_loopw [13] (fun i wr => ∃ k : Nat, lo + k ≤ hi + 1 ∧ i = .int .i64 (lo + k) ∧ Below v2.heap.size v2 wr) (fun i _ => (hi + 1 - intOf i).toNat)
  case atStart => exact ⟨0, by omega, by simp, Below.refl _ _⟩
  case round =>
    obtain ⟨k, hk, rfl, hbr⟩ := hrel
    have HBR := Lib.hid hbr
    replace HC := Lib.hid (heap_lift HC.out hbr)
    replace HD := Lib.hid (heap_lift HD.out hbr)
    replace HX := Lib.hid (heap_lift HX.out hbr)
    replace HY := Lib.hid (heap_lift HY.out hbr)
    replace HZ := Lib.hid (heap_lift HZ.out hbr)
    obtain ⟨n, hn⟩ : ∃ n, lo + (k : Int) = n := ⟨_, rfl⟩
    have n0 : lo ≤ n := by omega
    have n1 : n ≤ hi + 1 := by omega
    have HN := Lib.hid hn
    have HNS : Hid (lo + ((k + 1 : Nat) : Int) = n + 1) := Lib.hid (by rw [← hn]; omega)
    rw [hn]
    clear hbr hn hk
    by_cases hk1 : n ≤ hi
    · obtain ⟨M, hM⟩ : ∃ M, Pure.ways b n o f = M := ⟨_, rfl⟩
      have m0 : 0 ≤ M := by rw [← hM]; exact Pure.ways_nonneg _ _ _ _
      have HV : Hid (partV (Pure.ways b n o f) (Pure.sets b o) = .agg #[.int .i64 (M / Pure.gcd M S), .int .i64 (S / Pure.gcd M S)]) := Lib.hid (by rw [hM, hS.out])
      obtain ⟨hp1, hp2⟩ := low_pos (pn := M / Pure.gcd M S) (pd := S / Pure.gcd M S) m0 s0 rfl
      obtain ⟨pn, hpn⟩ : ∃ pn, M / Pure.gcd M S = pn := ⟨_, rfl⟩
      obtain ⟨pd, hpd⟩ : ∃ pd, S / Pure.gcd M S = pd := ⟨_, rfl⟩
      rw [hpn, hpd] at HV
      rw [hpn] at hp1 hp2
      have hI1 := hI.out n n0 hk1
      rw [hM] at hI1
      clear hM hpn hpd
      have c0 := heap_cell HC.out (j := 0) rfl
      have c1 := heap_cell HC.out (j := 1) rfl
      have c2 := heap_cell HC.out (j := 2) rfl
      have g0 := heap_cell HD.out (j := 0) rfl
      have g1 := heap_cell HD.out (j := 1) rfl
      go_wp2_with fail
      refine (chanceV hc.out n0 hk1 o0 o1 f0 f1 HV _).mono ?_
      rintro e y1 ⟨rfl, hb1⟩
      have hb2 := hb1.alloc hb1.size (.cells #[.int .i64 pn, .int .i64 pd] 31)
      replace HC := Lib.hid (heap_lift HC.out hb2)
      replace HD := Lib.hid (heap_lift HD.out hb2)
      replace HX := Lib.hid (heap_lift HX.out hb2)
      replace HY := Lib.hid (heap_lift HY.out hb2)
      replace HZ := Lib.hid (heap_lift HZ.out hb2)
      replace HBR := Lib.hid (below_then HBR.out hb2)
      have hx := heap_top y1 (.cells #[.int .i64 pn, .int .i64 pd] 31) rfl
      obtain ⟨Bp, hBp⟩ : ∃ B, y1.heap.size = B := ⟨_, rfl⟩
      obtain ⟨y2, hy2⟩ : ∃ v, y1.alloc (.cells #[.int .i64 pn, .int .i64 pd] 31) = v := ⟨_, rfl⟩
      rw [hBp] at hx
      rw [hy2] at HC HD HX HY HZ HBR hx
      have HP := Lib.hid hx
      clear hb1 hb2 hx c0 c1 c2 g0 g1
      go_wp2_with fail
      clear hBp hy2
      have HK : Hid (∀ v : World, Below y2.heap.size y2 v → (v.cell? ⟨Bs, 0, none⟩ = some (.int .i64 sl) ∧ v.cell? ⟨Bs, 1, none⟩ = some (.int .i64 sh) ∧ v.cell? ⟨Bp, 0, none⟩ = some (.int .i64 pn) ∧ Below y2.heap.size y2 v)) :=
        Lib.hid (fun v k => ⟨below_cell k (heap_cell HX.out (j := 0) rfl), below_cell k (heap_cell HX.out (j := 1) rfl), below_cell k (heap_cell HP.out (j := 0) rfl), k⟩)
      go_cut [134] from 109 to 159 (fun s wx => s = .bool false ∧ Below y2.heap.size y2 wx)
      case first =>
        by_cases hm : 0 < M
        · have hB : Hid (isV sl sh 0 n = true) := Lib.hid (by rw [hI1, decide_eq_true hm])
          have hpp := hp1 hm
          as_aux_lemma =>
            have xx0 : ∀ x : Among (Below y2.heap.size y2), x.val.cell? ⟨Bs, 0, none⟩ = some (.int .i64 sl) := fun x => below_cell x.ok (heap_cell HX.out (j := 0) rfl)
            have xx1 : ∀ x : Among (Below y2.heap.size y2), x.val.cell? ⟨Bs, 1, none⟩ = some (.int .i64 sh) := fun x => below_cell x.ok (heap_cell HX.out (j := 1) rfl)
            have xx2 : ∀ x : Among (Below y2.heap.size y2), x.val.cell? ⟨Bp, 0, none⟩ = some (.int .i64 pn) := fun x => below_cell x.ok (heap_cell HP.out (j := 0) rfl)
            have HD1 : Hid (∀ x : Among (Below y2.heap.size y2), Calls Try.prog 25 #[.agg #[.int .i64 sl, .int .i64 sh], .int .i64 0, .int .i64 n] x.val fun e w' => e = .returned (.bool true) ∧ ∃ y : Among (Below y2.heap.size y2), w' = y.val) := Lib.hid (fun x => calls_class ((is_any _ _ _ _ hB x.val).mono fun e w' h => ⟨h.1, below_then x.ok h.2⟩))
            have HSt : Hid (Below y2.heap.size y2 y2.drew) := Lib.hid (Below.refl _ _).drew
            have hne : Nonempty (Among (Below y2.heap.size y2)) := ⟨⟨_, HSt.out⟩⟩
            refine wp_region_class (Below y2.heap.size y2) (by kernel_rfl) (by kernel_rfl) HSt.out ?_
            repeat (go_big_quiet_step ((first | (go_at_call 25; with_reducible exact HD1.out _))))
            refine wpQuiet_nil ?_
            intro w8 hx
            have hB8 := among_out hx
            clear hx
            have HB8 := Lib.hid hB8
            clear hB8 hne xx0 xx1 xx2
            go_wp2_with fail
            go_meet
            exact ⟨rfl, HB8.out⟩
        · have hB : Hid (isV sl sh 0 n = false) := Lib.hid (by rw [hI1, decide_eq_false hm])
          have hpp : pn ≤ 0 := by have := hp2 (by omega); omega
          have hpd' : decide (0 < pn) = false := decide_eq_false (by omega)
          as_aux_lemma =>
            have xx0 : ∀ x : Among (Below y2.heap.size y2), x.val.cell? ⟨Bs, 0, none⟩ = some (.int .i64 sl) := fun x => below_cell x.ok (heap_cell HX.out (j := 0) rfl)
            have xx1 : ∀ x : Among (Below y2.heap.size y2), x.val.cell? ⟨Bs, 1, none⟩ = some (.int .i64 sh) := fun x => below_cell x.ok (heap_cell HX.out (j := 1) rfl)
            have xx2 : ∀ x : Among (Below y2.heap.size y2), x.val.cell? ⟨Bp, 0, none⟩ = some (.int .i64 pn) := fun x => below_cell x.ok (heap_cell HP.out (j := 0) rfl)
            have HD1 : Hid (∀ x : Among (Below y2.heap.size y2), Calls Try.prog 25 #[.agg #[.int .i64 sl, .int .i64 sh], .int .i64 0, .int .i64 n] x.val fun e w' => e = .returned (.bool false) ∧ ∃ y : Among (Below y2.heap.size y2), w' = y.val) := Lib.hid (fun x => calls_class ((is_any _ _ _ _ hB x.val).mono fun e w' h => ⟨h.1, below_then x.ok h.2⟩))
            have HSt : Hid (Below y2.heap.size y2 y2.drew) := Lib.hid (Below.refl _ _).drew
            have hne : Nonempty (Among (Below y2.heap.size y2)) := ⟨⟨_, HSt.out⟩⟩
            refine wp_region_class (Below y2.heap.size y2) (by kernel_rfl) (by kernel_rfl) HSt.out ?_
            repeat (go_big_quiet_step ((first | (go_at_call 25; with_reducible exact HD1.out _))))
            refine wpQuiet_nil ?_
            intro w8 hx
            have hB8 := among_out hx
            clear hx
            have HB8 := Lib.hid hB8
            clear hB8 hne xx0 xx1 xx2
            go_wp2_with fail
            go_meet
            exact ⟨rfl, HB8.out⟩
      case rest =>
        obtain ⟨y3, rfl⟩ : ∃ x, x = wc := ⟨_, rfl⟩
        obtain ⟨rfl, hbc⟩ := hcut
        clear HK
        replace HC := Lib.hid (heap_lift HC.out hbc)
        replace HD := Lib.hid (heap_lift HD.out hbc)
        replace HX := Lib.hid (heap_lift HX.out hbc)
        replace HY := Lib.hid (heap_lift HY.out hbc)
        replace HZ := Lib.hid (heap_lift HZ.out hbc)
        replace HBR := Lib.hid (below_then HBR.out hbc)
        clear hbc HP
        go_wp2_with fail
        have HK : Hid (∀ v : World, Below y3.heap.size y3 v → (v.cell? ⟨Bs, 0, none⟩ = some (.int .i64 sl) ∧ v.cell? ⟨Bs, 1, none⟩ = some (.int .i64 sh) ∧ v.cell? ⟨(Bc + 1), 0, none⟩ = some (.int .i64 o) ∧ v.cell? ⟨Bc, 0, none⟩ = some (.int .i64 b) ∧ Below y3.heap.size y3 v)) :=
          Lib.hid (fun v k => ⟨below_cell k (heap_cell HX.out (j := 0) rfl), below_cell k (heap_cell HX.out (j := 1) rfl), below_cell k (heap_cell HD.out (j := 0) rfl), below_cell k (heap_cell HC.out (j := 0) rfl), k⟩)
        go_cut [159] from 109 to 159 (fun s wx => s = .bool false ∧ Below y3.heap.size y3 wx)
        case first =>
          have hob3 : decide (o < b) = false := decide_eq_false (by omega)
          as_aux_lemma =>
            have c0 := heap_cell HC.out (j := 0) rfl
            have g0 := heap_cell HD.out (j := 0) rfl
            go_quiet (fail)
            go_wp2_with fail
            go_meet
            exact ⟨rfl, below_draws _ _⟩
        case rest =>
          obtain ⟨y4, rfl⟩ : ∃ x, x = wc := ⟨_, rfl⟩
          obtain ⟨rfl, hbc⟩ := hcut
          clear HK
          replace HC := Lib.hid (heap_lift HC.out hbc)
          replace HD := Lib.hid (heap_lift HD.out hbc)
          replace HBR := Lib.hid (below_then HBR.out hbc)
          clear hbc HX HY HZ hI1 hp1 hp2
          go_wp2_with fail
          go_roundw
          case rel => exact ⟨k + 1, by rw [HNS.out]; omega, by rw [HNS.out], HBR.out⟩
          case measure => (simp [intOf] <;> omega)
    · obtain rfl : n = hi + 1 := by omega
      replace HB := Lib.hid (below_then HB.out HBR.out)
      clear HBR HY HZ HN HNS
      have c0 := heap_cell HC.out (j := 0) rfl
      have c1 := heap_cell HC.out (j := 1) rfl
      have c2 := heap_cell HC.out (j := 2) rfl
      have g0 := heap_cell HD.out (j := 0) rfl
      have g1 := heap_cell HD.out (j := 1) rfl
      go_wp2_with fail
      refine (restV hrb hrl hrh hre _).mono ?_
      rintro e r1 ⟨rfl, hb1⟩
      replace HC := Lib.hid (heap_lift HC.out hb1)
      replace HD := Lib.hid (heap_lift HD.out hb1)
      replace HX := Lib.hid (heap_lift HX.out hb1)
      replace HB := Lib.hid (below_then HB.out hb1)
      clear hb1 c0 c1 c2 g0 g1
      go_upto_region 22 with fail
      have hb2 : Below r1.heap.size r1 (r1.alloc (.cells #[.int .i64 0, .int .i64 0, .int .i64 0] 25)) := (Below.refl _ _).alloc (Nat.le_refl _) _
      replace HC := Lib.hid (heap_lift HC.out hb2)
      replace HD := Lib.hid (heap_lift HD.out hb2)
      replace HX := Lib.hid (heap_lift HX.out hb2)
      replace HB := Lib.hid (below_then HB.out hb2)
      have hx := heap_top r1 (.cells #[.int .i64 0, .int .i64 0, .int .i64 0] 25) rfl
      obtain ⟨Br, hBr⟩ : ∃ B, r1.heap.size = B := ⟨_, rfl⟩
      obtain ⟨r2, hr2⟩ : ∃ v, r1.alloc (.cells #[.int .i64 0, .int .i64 0, .int .i64 0] 25) = v := ⟨_, rfl⟩
      rw [hBr] at hx
      rw [hr2] at HC HD HX HB hx
      rw [hr2, hBr]
      have HR := Lib.hid hx
      clear hb2 hx hBr hr2
      have c0 := heap_cell HC.out (j := 0) rfl
      have c1 := heap_cell HC.out (j := 1) rfl
      have c2 := heap_cell HC.out (j := 2) rfl
      have g0 := heap_cell HD.out (j := 0) rfl
      have g1 := heap_cell HD.out (j := 1) rfl
      have k0 := heap_cell HX.out (j := 0) rfl
      have k1 := heap_cell HX.out (j := 1) rfl
      have m0 := heap_cell HR.out (j := 0) rfl
      have m1 := heap_cell HR.out (j := 1) rfl
      have m2 := heap_cell HR.out (j := 2) rfl
      have hob2 : (o == b) = true := by simp [hob.out]
      obtain rfl := hsf.out
      obtain rfl := hsg.out
      go_wp2_with fail
      go_ret
      exact ⟨rfl, HB.out⟩

set_option maxHeartbeats 16000000 in
set_option maxRecDepth 100000 in
theorem can_no_lt (b lo hi o f s1l s1h e1 s2l s2h e2 S : Int) (hc : Hid (Pure.okCargo b lo hi = true)) (hdr : Hid (Pure.okDraw b o f = true)) (b1 : 1 ≤ b) (b2 : b ≤ 36) (l0 : 0 ≤ lo) (l1 : lo ≤ hi) (hbb : hi ≤ b) (o0 : 0 ≤ o) (o1 : o ≤ b) (f0 : 0 ≤ f) (f1 : f ≤ o)
    (hsl : Hid (Pure.pick (Pure.canE b lo hi o f) (Pure.fst b (Pure.nums b.toNat lo hi o f)) = 0)) (hsh : Hid (Pure.pick (Pure.canE b lo hi o f) (Pure.lst (Pure.nums b.toNat lo hi o f)) = 0)) (hec : Hid (Pure.canE b lo hi o f = 8))
    (hob : o < b)
    (hs1l : Hid (Pure.pick (Pure.canE b lo hi (o + 1) f) (Pure.fst b (Pure.nums b.toNat lo hi (o + 1) f)) = s1l)) (hs1h : Hid (Pure.pick (Pure.canE b lo hi (o + 1) f) (Pure.lst (Pure.nums b.toNat lo hi (o + 1) f)) = s1h)) (he1 : Hid (Pure.canE b lo hi (o + 1) f = e1))
    (hs2l : Hid (Pure.pick (Pure.canE b lo hi (o + 1) (f + 1)) (Pure.fst b (Pure.nums b.toNat lo hi (o + 1) (f + 1))) = s2l)) (hs2h : Hid (Pure.pick (Pure.canE b lo hi (o + 1) (f + 1)) (Pure.lst (Pure.nums b.toNat lo hi (o + 1) (f + 1))) = s2h)) (he2 : Hid (Pure.canE b lo hi (o + 1) (f + 1) = e2))
    (hJ : Hid (∀ n : Int, lo ≤ n → n ≤ hi → isV 0 0 8 n = (isV s1l s1h e1 n || isV s2l s2h e2 n)))
    (hI : Hid (∀ n : Int, lo ≤ n → n ≤ hi → isV 0 0 8 n = decide (0 < Pure.ways b n o f))) (hS : Hid (Pure.sets b o = S)) (s0 : 0 < S)
    (hrb : Hid (Pure.pick (Pure.restE b lo hi o f) (b - o) = 0)) (hrl : Hid (Pure.pick (Pure.restE b lo hi o f) (Pure.fst b (Pure.nums b.toNat lo hi o f) - f) = 0)) (hrh : Hid (Pure.pick (Pure.restE b lo hi o f) (Pure.lst (Pure.nums b.toNat lo hi o f) - f) = 0)) (hre : Hid (Pure.restE b lo hi o f = 8)) (w : World) :
    Calls Try.prog 4 #[cargoV b lo hi, .agg #[.int .i64 o, .int .i64 f]] w fun e w' => e = .returned (.bool true) ∧ Below w.heap.size w w' := by
  go_enter Try.func4, Try.ntmps4
  go_wp2_with fail
  refine (alive_any _).mono ?_
  rintro e w1 ⟨rfl, hb1⟩
  have hcc := heap_lift (heap_up (heap_top w (.cells #[.int .i64 b, .int .i64 lo, .int .i64 hi] 25) rfl) (.cells #[.int .i64 o, .int .i64 f] 57)) hb1
  have hdd := heap_lift (heap_top (w.alloc (.cells #[.int .i64 b, .int .i64 lo, .int .i64 hi] 25)) (.cells #[.int .i64 o, .int .i64 f] 57) rfl) hb1
  have HC := Lib.hid hcc
  have HD := Lib.hid hdd
  have HB := Lib.hid (below_then (((Below.refl _ _).alloc (Nat.le_refl _) (.cells #[.int .i64 b, .int .i64 lo, .int .i64 hi] 25)).alloc (by simp) (.cells #[.int .i64 o, .int .i64 f] 57)) hb1)
  obtain ⟨Bc, hBc⟩ : ∃ Bc, w.heap.size = Bc := ⟨_, rfl⟩
  have hBd : (w.alloc (.cells #[.int .i64 b, .int .i64 lo, .int .i64 hi] 25)).heap.size = Bc + 1 := by rw [← hBc]; simp
  rw [hBd] at HD
  rw [hBc] at HC
  have c0 := heap_cell HC.out (j := 0) rfl
  have c1 := heap_cell HC.out (j := 1) rfl
  have c2 := heap_cell HC.out (j := 2) rfl
  have g0 := heap_cell HD.out (j := 0) rfl
  have g1 := heap_cell HD.out (j := 1) rfl
  clear hcc hdd hb1 hBd
  go_wp2_with fail
  clear hBc
  refine (rCargo_any b lo hi _).mono ?_
  rw [hc.out]
  rintro e w2 ⟨rfl, rfl⟩
  obtain ⟨w2, hw2⟩ : ∃ w2, w1.alloc (.cells #[.int .i64 b, .int .i64 lo, .int .i64 hi] 25) = w2 := ⟨_, rfl⟩
  replace HC := Lib.hid (heap_up HC.out (.cells #[.int .i64 b, .int .i64 lo, .int .i64 hi] 25))
  replace HD := Lib.hid (heap_up HD.out (.cells #[.int .i64 b, .int .i64 lo, .int .i64 hi] 25))
  replace HB := Lib.hid (HB.out.alloc HB.out.size (.cells #[.int .i64 b, .int .i64 lo, .int .i64 hi] 25))
  rw [hw2] at HC HD HB
  rw [hw2]
  clear c0 c1 c2 g0 g1 hw2
  have c0 := heap_cell HC.out (j := 0) rfl
  have c1 := heap_cell HC.out (j := 1) rfl
  have c2 := heap_cell HC.out (j := 2) rfl
  have g0 := heap_cell HD.out (j := 0) rfl
  have g1 := heap_cell HD.out (j := 1) rfl
  go_wp2_with fail
  refine (rDraw_any b lo hi o f _).mono ?_
  rw [hdr.out]
  rintro e w3 ⟨rfl, rfl⟩
  obtain ⟨w3, hw3⟩ : ∃ w3, (w2.alloc (.cells #[.int .i64 b, .int .i64 lo, .int .i64 hi] 25)).alloc (.cells #[.int .i64 o, .int .i64 f] 57) = w3 := ⟨_, rfl⟩
  have hb3 : Below w2.heap.size w2 w3 := by rw [← hw3]; exact ((Below.refl _ _).alloc (Nat.le_refl _) _).alloc (by simp) _
  replace HC := Lib.hid (heap_lift HC.out hb3)
  replace HD := Lib.hid (heap_lift HD.out hb3)
  replace HB := Lib.hid (HB.out.trans (hb3.mono HB.out.size))
  rw [hw3]
  clear hb3 hw3 c0 c1 c2 g0 g1
  have c0 := heap_cell HC.out (j := 0) rfl
  have c1 := heap_cell HC.out (j := 1) rfl
  have c2 := heap_cell HC.out (j := 2) rfl
  have g0 := heap_cell HD.out (j := 0) rfl
  have g1 := heap_cell HD.out (j := 1) rfl
  go_wp2_with fail
  refine (canV hsl hsh hec _).mono ?_
  rintro e v1 ⟨rfl, hb1⟩
  replace HC := Lib.hid (heap_lift HC.out hb1)
  replace HD := Lib.hid (heap_lift HD.out hb1)
  replace HB := Lib.hid (below_then HB.out hb1)
  clear hb1 c0 c1 c2 g0 g1
  go_upto_region 5 with fail
  have hb2 : Below v1.heap.size v1 (v1.alloc (.cells #[.int .i64 0, .int .i64 0] 23)) := (Below.refl _ _).alloc (Nat.le_refl _) (.cells #[.int .i64 0, .int .i64 0] 23)
  have hx := heap_top v1 (.cells #[.int .i64 0, .int .i64 0] 23) rfl
  have hlt : Bc + 1 < v1.heap.size ∧ w.heap.size ≤ v1.heap.size := ⟨(Array.getElem?_eq_some_iff.1 HD.out).1, HB.out.size⟩
  replace HC := Lib.hid (heap_lift HC.out hb2)
  replace HD := Lib.hid (heap_lift HD.out hb2)
  replace HB := Lib.hid (below_then HB.out hb2)
  obtain ⟨Bs, hBs⟩ : ∃ B, v1.heap.size = B := ⟨_, rfl⟩
  obtain ⟨v1', hv1'⟩ : ∃ v, v1.alloc (.cells #[.int .i64 0, .int .i64 0] 23) = v := ⟨_, rfl⟩
  have hsz : v1'.heap.size = Bs + 1 := by rw [← hv1', ← hBs]; simp
  rw [hBs] at hx hlt
  rw [hv1'] at HC HD HB hx
  rw [hv1', hBs]
  have HX := Lib.hid hx
  have HLT := Lib.hid hlt
  clear hb2 hx hlt hBs hv1'
  have c0 := heap_cell HC.out (j := 0) rfl
  have c1 := heap_cell HC.out (j := 1) rfl
  have c2 := heap_cell HC.out (j := 2) rfl
  have g0 := heap_cell HD.out (j := 0) rfl
  have g1 := heap_cell HD.out (j := 1) rfl
  have k0 := heap_cell HX.out (j := 0) rfl
  have k1 := heap_cell HX.out (j := 1) rfl
  go_upto_region 10 with fail
  have hy := heap_up (heap_top v1' (.cells #[.int .i64 0, .int .i64 0] 23) rfl) (.cells #[.int .i64 0, .int .i64 0] 23)
  have hz := heap_top (v1'.alloc (.cells #[.int .i64 0, .int .i64 0] 23)) (.cells #[.int .i64 0, .int .i64 0] 23) rfl
  have hb2 : Below v1'.heap.size v1' ((v1'.alloc (.cells #[.int .i64 0, .int .i64 0] 23)).alloc (.cells #[.int .i64 0, .int .i64 0] 23)) := ((Below.refl _ _).alloc (Nat.le_refl _) (.cells #[.int .i64 0, .int .i64 0] 23)).alloc (by simp) (.cells #[.int .i64 0, .int .i64 0] 23)
  replace HC := Lib.hid (heap_lift HC.out hb2)
  replace HD := Lib.hid (heap_lift HD.out hb2)
  replace HX := Lib.hid (heap_lift HX.out hb2)
  replace HB := Lib.hid (below_then HB.out hb2)
  have hB2 : (v1'.alloc (.cells #[.int .i64 0, .int .i64 0] 23)).heap.size = Bs + 1 + 1 := by simp [hsz]
  obtain ⟨v2, hv2⟩ : ∃ v, (v1'.alloc (.cells #[.int .i64 0, .int .i64 0] 23)).alloc (.cells #[.int .i64 0, .int .i64 0] 23) = v := ⟨_, rfl⟩
  rw [hsz] at hy
  rw [hB2] at hz
  rw [hv2] at HC HD HX HB hy hz
  have HY := Lib.hid hy
  have HZ := Lib.hid hz
  rw [hv2]
  try rw [hsz]
  clear hy hz hb2 hsz hB2 hv2 c0 c1 c2 g0 g1 k0 k1
  have c0 := heap_cell HC.out (j := 0) rfl
  have c1 := heap_cell HC.out (j := 1) rfl
  have c2 := heap_cell HC.out (j := 2) rfl
  have g0 := heap_cell HD.out (j := 0) rfl
  have g1 := heap_cell HD.out (j := 1) rfl
  go_upto_region 11 with fail
  clear c0 c1 c2 g0 g1
  have t1 : IntKind.i64.wrap (o + 1) = o + 1 := IntWalk.i64_in _ (by omega)
  have t2 : IntKind.i64.wrap (f + 1) = f + 1 := IntWalk.i64_in _ (by omega)
  have HK : Hid (∀ v : World, Held w Bc Bs (Bs + 1 + 1) (Bs + 1) (.cells #[.int .i64 b, .int .i64 lo, .int .i64 hi] 25) (.cells #[.int .i64 o, .int .i64 f] 57) (.cells #[.int .i64 0, .int .i64 0] 23) (.cells #[.int .i64 0, .int .i64 0] 23) 23 v → (v.cell? ⟨Bc, 0, none⟩ = some (.int .i64 b) ∧ v.cell? ⟨Bc, 1, none⟩ = some (.int .i64 lo) ∧ v.cell? ⟨Bc, 2, none⟩ = some (.int .i64 hi) ∧ v.cell? ⟨(Bc + 1), 0, none⟩ = some (.int .i64 o) ∧ v.cell? ⟨(Bc + 1), 1, none⟩ = some (.int .i64 f) ∧ Held w Bc Bs (Bs + 1 + 1) (Bs + 1) (.cells #[.int .i64 b, .int .i64 lo, .int .i64 hi] 25) (.cells #[.int .i64 o, .int .i64 f] 57) (.cells #[.int .i64 0, .int .i64 0] 23) (.cells #[.int .i64 0, .int .i64 0] 23) 23 v)) := Lib.hid (fun v k => ⟨heap_cell k.1 (j := 0) rfl, heap_cell k.1 (j := 1) rfl, heap_cell k.1 (j := 2) rfl, heap_cell k.2.1 (j := 0) rfl, heap_cell k.2.1 (j := 1) rfl, k⟩)
  have HH : Hid (Held w Bc Bs (Bs + 1 + 1) (Bs + 1) (.cells #[.int .i64 b, .int .i64 lo, .int .i64 hi] 25) (.cells #[.int .i64 o, .int .i64 f] 57) (.cells #[.int .i64 0, .int .i64 0] 23) (.cells #[.int .i64 0, .int .i64 0] 23) 23 v2) := Lib.hid ⟨HC.out, HD.out, HX.out, HZ.out, ⟨_, _, HY.out⟩, HB.out⟩
  have hlt := HLT.out
  go_cut [11] (fun s wx => s = .int .i64 e1 ∧ wx.heap[Bc]? = some (.cells #[.int .i64 b, .int .i64 lo, .int .i64 hi] 25) ∧ wx.heap[Bc + 1]? = some (.cells #[.int .i64 o, .int .i64 f] 57) ∧ wx.heap[Bs]? = some (.cells #[.int .i64 0, .int .i64 0] 23) ∧ wx.heap[Bs + 1]? = some (.cells #[.int .i64 s1l, .int .i64 s1h] 23) ∧ wx.heap[Bs + 1 + 1]? = some (.cells #[.int .i64 0, .int .i64 0] 23) ∧ Below w.heap.size w wx)
  case first =>
    as_aux_lemma =>
      go_region_held3 (fun v => v.cell? ⟨Bc, 0, none⟩ = some (.int .i64 b) ∧ v.cell? ⟨Bc, 1, none⟩ = some (.int .i64 lo) ∧ v.cell? ⟨Bc, 2, none⟩ = some (.int .i64 hi) ∧ v.cell? ⟨(Bc + 1), 0, none⟩ = some (.int .i64 o) ∧ v.cell? ⟨(Bc + 1), 1, none⟩ = some (.int .i64 f) ∧ Held w Bc Bs (Bs + 1 + 1) (Bs + 1) (.cells #[.int .i64 b, .int .i64 lo, .int .i64 hi] 25) (.cells #[.int .i64 o, .int .i64 f] 57) (.cells #[.int .i64 0, .int .i64 0] 23) (.cells #[.int .i64 0, .int .i64 0] 23) 23 v)
        (first | exact HK.out _ (HH.out.lift (Below.refl _ _).drew) | with_reducible exact HK.out _ hhu1 | with_reducible exact HK.out _ hhu0 | with_reducible exact HK.out _ (hhu1.set (by omega) (by omega) (by omega) (by omega) (by omega) _ _))
        (first
          | (go_at_call 26; with_reducible refine (drawn_any _ _ _).mono ?_; rintro e u0 ⟨rfl, hbu0⟩; have hhu0 : Held w Bc Bs (Bs + 1 + 1) (Bs + 1) (.cells #[.int .i64 b, .int .i64 lo, .int .i64 hi] 25) (.cells #[.int .i64 o, .int .i64 f] 57) (.cells #[.int .i64 0, .int .i64 0] 23) (.cells #[.int .i64 0, .int .i64 0] 23) 23 u0 := Held.lift (And.right (And.right (And.right (And.right (And.right (by assumption)))))) hbu0)
          | (go_at_call 24; with_reducible refine (canV hs1l hs1h he1 _).mono ?_; rintro e u1 ⟨rfl, hbu1⟩; have hhu1 : Held w Bc Bs (Bs + 1 + 1) (Bs + 1) (.cells #[.int .i64 b, .int .i64 lo, .int .i64 hi] 25) (.cells #[.int .i64 o, .int .i64 f] 57) (.cells #[.int .i64 0, .int .i64 0] 23) (.cells #[.int .i64 0, .int .i64 0] 23) 23 u1 := Held.lift (And.right (And.right (And.right (And.right (And.right (by assumption)))))) hbu1; obtain ⟨x9, y9, hz9⟩ := Held.box hhu1; have z0 := heap_cell hz9 (j := 0) rfl; have z1 := heap_cell hz9 (j := 1) rfl; have y0 := heap_frozen hz9 0; have y1 := heap_frozen hz9 1; have HZ9 := Lib.hid hz9; clear hz9))
      all_goals
        go_wp2_with fail
        go_meet
        have hall := Held.all hhu1
        exact ⟨rfl, heap_far2 (by omega) hall.1 _ _, heap_far2 (by omega) hall.2.1 _ _, heap_far2 (by omega) hall.2.2.1 _ _, heap_two HZ9.out _ _, heap_far2 (by omega) hall.2.2.2.1 _ _, below_set2 hall.2.2.2.2 (by omega) _ _⟩
  case rest =>
    obtain ⟨v3, rfl⟩ : ∃ x, x = wc := ⟨_, rfl⟩
    obtain ⟨rfl, h1, h2, h3, h4, h5, h6⟩ := hcut
    replace HC := Lib.hid h1
    replace HD := Lib.hid h2
    replace HX := Lib.hid h3
    replace HY := Lib.hid h4
    replace HZ := Lib.hid h5
    replace HB := Lib.hid h6
    clear h1 h2 h3 h4 h5 h6 HK HH hlt
    as_aux_lemma =>
      go_wp2_with fail
      have HK : Hid (∀ v : World, Held w Bc Bs (Bs + 1) (Bs + 1 + 1) (.cells #[.int .i64 b, .int .i64 lo, .int .i64 hi] 25) (.cells #[.int .i64 o, .int .i64 f] 57) (.cells #[.int .i64 0, .int .i64 0] 23) (.cells #[.int .i64 s1l, .int .i64 s1h] 23) 23 v → (v.cell? ⟨Bc, 0, none⟩ = some (.int .i64 b) ∧ v.cell? ⟨Bc, 1, none⟩ = some (.int .i64 lo) ∧ v.cell? ⟨Bc, 2, none⟩ = some (.int .i64 hi) ∧ v.cell? ⟨(Bc + 1), 0, none⟩ = some (.int .i64 o) ∧ v.cell? ⟨(Bc + 1), 1, none⟩ = some (.int .i64 f) ∧ Held w Bc Bs (Bs + 1) (Bs + 1 + 1) (.cells #[.int .i64 b, .int .i64 lo, .int .i64 hi] 25) (.cells #[.int .i64 o, .int .i64 f] 57) (.cells #[.int .i64 0, .int .i64 0] 23) (.cells #[.int .i64 s1l, .int .i64 s1h] 23) 23 v)) := Lib.hid (fun v k => ⟨heap_cell k.1 (j := 0) rfl, heap_cell k.1 (j := 1) rfl, heap_cell k.1 (j := 2) rfl, heap_cell k.2.1 (j := 0) rfl, heap_cell k.2.1 (j := 1) rfl, k⟩)
      have HH : Hid (Held w Bc Bs (Bs + 1) (Bs + 1 + 1) (.cells #[.int .i64 b, .int .i64 lo, .int .i64 hi] 25) (.cells #[.int .i64 o, .int .i64 f] 57) (.cells #[.int .i64 0, .int .i64 0] 23) (.cells #[.int .i64 s1l, .int .i64 s1h] 23) 23 v3) := Lib.hid ⟨HC.out, HD.out, HX.out, HY.out, ⟨_, _, HZ.out⟩, HB.out⟩
      have hlt := HLT.out
      go_cut [12] (fun s wx => s = .int .i64 e2 ∧ wx.heap[Bc]? = some (.cells #[.int .i64 b, .int .i64 lo, .int .i64 hi] 25) ∧ wx.heap[Bc + 1]? = some (.cells #[.int .i64 o, .int .i64 f] 57) ∧ wx.heap[Bs]? = some (.cells #[.int .i64 0, .int .i64 0] 23) ∧ wx.heap[Bs + 1]? = some (.cells #[.int .i64 s1l, .int .i64 s1h] 23) ∧ wx.heap[Bs + 1 + 1]? = some (.cells #[.int .i64 s2l, .int .i64 s2h] 23) ∧ Below w.heap.size w wx)
      case first =>
        as_aux_lemma =>
          go_region_held3 (fun v => v.cell? ⟨Bc, 0, none⟩ = some (.int .i64 b) ∧ v.cell? ⟨Bc, 1, none⟩ = some (.int .i64 lo) ∧ v.cell? ⟨Bc, 2, none⟩ = some (.int .i64 hi) ∧ v.cell? ⟨(Bc + 1), 0, none⟩ = some (.int .i64 o) ∧ v.cell? ⟨(Bc + 1), 1, none⟩ = some (.int .i64 f) ∧ Held w Bc Bs (Bs + 1) (Bs + 1 + 1) (.cells #[.int .i64 b, .int .i64 lo, .int .i64 hi] 25) (.cells #[.int .i64 o, .int .i64 f] 57) (.cells #[.int .i64 0, .int .i64 0] 23) (.cells #[.int .i64 s1l, .int .i64 s1h] 23) 23 v)
            (first | exact HK.out _ (HH.out.lift (Below.refl _ _).drew) | with_reducible exact HK.out _ hhu1 | with_reducible exact HK.out _ hhu0 | with_reducible exact HK.out _ (hhu1.set (by omega) (by omega) (by omega) (by omega) (by omega) _ _))
            (first
              | (go_at_call 26; with_reducible refine (drawn_any _ _ _).mono ?_; rintro e u0 ⟨rfl, hbu0⟩; have hhu0 : Held w Bc Bs (Bs + 1) (Bs + 1 + 1) (.cells #[.int .i64 b, .int .i64 lo, .int .i64 hi] 25) (.cells #[.int .i64 o, .int .i64 f] 57) (.cells #[.int .i64 0, .int .i64 0] 23) (.cells #[.int .i64 s1l, .int .i64 s1h] 23) 23 u0 := Held.lift (And.right (And.right (And.right (And.right (And.right (by assumption)))))) hbu0)
              | (go_at_call 24; with_reducible refine (canV hs2l hs2h he2 _).mono ?_; rintro e u1 ⟨rfl, hbu1⟩; have hhu1 : Held w Bc Bs (Bs + 1) (Bs + 1 + 1) (.cells #[.int .i64 b, .int .i64 lo, .int .i64 hi] 25) (.cells #[.int .i64 o, .int .i64 f] 57) (.cells #[.int .i64 0, .int .i64 0] 23) (.cells #[.int .i64 s1l, .int .i64 s1h] 23) 23 u1 := Held.lift (And.right (And.right (And.right (And.right (And.right (by assumption)))))) hbu1; obtain ⟨x9, y9, hz9⟩ := Held.box hhu1; have z0 := heap_cell hz9 (j := 0) rfl; have z1 := heap_cell hz9 (j := 1) rfl; have y0 := heap_frozen hz9 0; have y1 := heap_frozen hz9 1; have HZ9 := Lib.hid hz9; clear hz9))
          all_goals
            go_wp2_with fail
            go_meet
            have hall := Held.all hhu1
            exact ⟨rfl, heap_far2 (by omega) hall.1 _ _, heap_far2 (by omega) hall.2.1 _ _, heap_far2 (by omega) hall.2.2.1 _ _, heap_far2 (by omega) hall.2.2.2.1 _ _, heap_two HZ9.out _ _, below_set2 hall.2.2.2.2 (by omega) _ _⟩
      case rest =>
        obtain ⟨v4, rfl⟩ : ∃ x, x = wc := ⟨_, rfl⟩
        obtain ⟨rfl, h1, h2, h3, h4, h5, h6⟩ := hcut
        replace HC := Lib.hid h1
        replace HD := Lib.hid h2
        replace HX := Lib.hid h3
        replace HY := Lib.hid h4
        replace HZ := Lib.hid h5
        replace HB := Lib.hid h6
        clear h1 h2 h3 h4 h5 h6 HK HH hlt
        as_aux_lemma =>
          have c1 := heap_cell HC.out (j := 1) rfl
          go_wp2_with fail
          clear c1
          clear t1 t2
          go_loopw [13] (fun i wr => ∃ k : Nat, lo + k ≤ hi + 1 ∧ i = .int .i64 (lo + k) ∧ Below v4.heap.size v4 wr) (fun i _ => (hi + 1 - intOf i).toNat)
          case atStart => exact ⟨0, by omega, by simp, Below.refl _ _⟩
          case round =>
            obtain ⟨k, hk, rfl, hbr⟩ := hrel
            have HBR := Lib.hid hbr
            replace HC := Lib.hid (heap_lift HC.out hbr)
            replace HD := Lib.hid (heap_lift HD.out hbr)
            replace HX := Lib.hid (heap_lift HX.out hbr)
            replace HY := Lib.hid (heap_lift HY.out hbr)
            replace HZ := Lib.hid (heap_lift HZ.out hbr)
            obtain ⟨n, hn⟩ : ∃ n, lo + (k : Int) = n := ⟨_, rfl⟩
            have n0 : lo ≤ n := by omega
            have n1 : n ≤ hi + 1 := by omega
            have HN := Lib.hid hn
            have HNS : Hid (lo + ((k + 1 : Nat) : Int) = n + 1) := Lib.hid (by rw [← hn]; omega)
            rw [hn]
            clear hbr hn hk
            by_cases hk1 : n ≤ hi
            · obtain ⟨M, hM⟩ : ∃ M, Pure.ways b n o f = M := ⟨_, rfl⟩
              have m0 : 0 ≤ M := by rw [← hM]; exact Pure.ways_nonneg _ _ _ _
              have HV : Hid (partV (Pure.ways b n o f) (Pure.sets b o) = .agg #[.int .i64 (M / Pure.gcd M S), .int .i64 (S / Pure.gcd M S)]) := Lib.hid (by rw [hM, hS.out])
              obtain ⟨hp1, hp2⟩ := low_pos (pn := M / Pure.gcd M S) (pd := S / Pure.gcd M S) m0 s0 rfl
              obtain ⟨pn, hpn⟩ : ∃ pn, M / Pure.gcd M S = pn := ⟨_, rfl⟩
              obtain ⟨pd, hpd⟩ : ∃ pd, S / Pure.gcd M S = pd := ⟨_, rfl⟩
              rw [hpn, hpd] at HV
              rw [hpn] at hp1 hp2
              have hI1 := hI.out n n0 hk1
              rw [hM] at hI1
              have hJ1 := hJ.out n n0 hk1
              clear hM hpn hpd
              have c0 := heap_cell HC.out (j := 0) rfl
              have c1 := heap_cell HC.out (j := 1) rfl
              have c2 := heap_cell HC.out (j := 2) rfl
              have g0 := heap_cell HD.out (j := 0) rfl
              have g1 := heap_cell HD.out (j := 1) rfl
              go_wp2_with fail
              refine (chanceV hc.out n0 hk1 o0 o1 f0 f1 HV _).mono ?_
              rintro e y1 ⟨rfl, hb1⟩
              have hb2 := hb1.alloc hb1.size (.cells #[.int .i64 pn, .int .i64 pd] 31)
              replace HC := Lib.hid (heap_lift HC.out hb2)
              replace HD := Lib.hid (heap_lift HD.out hb2)
              replace HX := Lib.hid (heap_lift HX.out hb2)
              replace HY := Lib.hid (heap_lift HY.out hb2)
              replace HZ := Lib.hid (heap_lift HZ.out hb2)
              replace HBR := Lib.hid (below_then HBR.out hb2)
              have hx := heap_top y1 (.cells #[.int .i64 pn, .int .i64 pd] 31) rfl
              obtain ⟨Bp, hBp⟩ : ∃ B, y1.heap.size = B := ⟨_, rfl⟩
              obtain ⟨y2, hy2⟩ : ∃ v, y1.alloc (.cells #[.int .i64 pn, .int .i64 pd] 31) = v := ⟨_, rfl⟩
              rw [hBp] at hx
              rw [hy2] at HC HD HX HY HZ HBR hx
              have HP := Lib.hid hx
              clear hb1 hb2 hx c0 c1 c2 g0 g1
              go_wp2_with fail
              clear hBp hy2
              have HK : Hid (∀ v : World, Below y2.heap.size y2 v → (v.cell? ⟨Bs, 0, none⟩ = some (.int .i64 0) ∧ v.cell? ⟨Bs, 1, none⟩ = some (.int .i64 0) ∧ v.cell? ⟨Bp, 0, none⟩ = some (.int .i64 pn) ∧ Below y2.heap.size y2 v)) :=
                Lib.hid (fun v k => ⟨below_cell k (heap_cell HX.out (j := 0) rfl), below_cell k (heap_cell HX.out (j := 1) rfl), below_cell k (heap_cell HP.out (j := 0) rfl), k⟩)
              go_cut [134] from 109 to 159 (fun s wx => s = .bool false ∧ Below y2.heap.size y2 wx)
              case first =>
                by_cases hm : 0 < M
                · have hB : Hid (isV 0 0 8 n = true) := Lib.hid (by rw [hI1, decide_eq_true hm])
                  have hpp := hp1 hm
                  as_aux_lemma =>
                    have xx0 : ∀ x : Among (Below y2.heap.size y2), x.val.cell? ⟨Bs, 0, none⟩ = some (.int .i64 0) := fun x => below_cell x.ok (heap_cell HX.out (j := 0) rfl)
                    have xx1 : ∀ x : Among (Below y2.heap.size y2), x.val.cell? ⟨Bs, 1, none⟩ = some (.int .i64 0) := fun x => below_cell x.ok (heap_cell HX.out (j := 1) rfl)
                    have xx2 : ∀ x : Among (Below y2.heap.size y2), x.val.cell? ⟨Bp, 0, none⟩ = some (.int .i64 pn) := fun x => below_cell x.ok (heap_cell HP.out (j := 0) rfl)
                    have HD1 : Hid (∀ x : Among (Below y2.heap.size y2), Calls Try.prog 25 #[.agg #[.int .i64 0, .int .i64 0], .int .i64 8, .int .i64 n] x.val fun e w' => e = .returned (.bool true) ∧ ∃ y : Among (Below y2.heap.size y2), w' = y.val) := Lib.hid (fun x => calls_class ((is_any _ _ _ _ hB x.val).mono fun e w' h => ⟨h.1, below_then x.ok h.2⟩))
                    have HSt : Hid (Below y2.heap.size y2 y2.drew) := Lib.hid (Below.refl _ _).drew
                    have hne : Nonempty (Among (Below y2.heap.size y2)) := ⟨⟨_, HSt.out⟩⟩
                    refine wp_region_class (Below y2.heap.size y2) (by kernel_rfl) (by kernel_rfl) HSt.out ?_
                    repeat (go_big_quiet_step ((first | (go_at_call 25; with_reducible exact HD1.out _))))
                    refine wpQuiet_nil ?_
                    intro w8 hx
                    have hB8 := among_out hx
                    clear hx
                    have HB8 := Lib.hid hB8
                    clear hB8 hne xx0 xx1 xx2
                    go_wp2_with fail
                    go_meet
                    exact ⟨rfl, HB8.out⟩
                · have hB : Hid (isV 0 0 8 n = false) := Lib.hid (by rw [hI1, decide_eq_false hm])
                  have hpp : pn ≤ 0 := by have := hp2 (by omega); omega
                  have hpd' : decide (0 < pn) = false := decide_eq_false (by omega)
                  as_aux_lemma =>
                    have xx0 : ∀ x : Among (Below y2.heap.size y2), x.val.cell? ⟨Bs, 0, none⟩ = some (.int .i64 0) := fun x => below_cell x.ok (heap_cell HX.out (j := 0) rfl)
                    have xx1 : ∀ x : Among (Below y2.heap.size y2), x.val.cell? ⟨Bs, 1, none⟩ = some (.int .i64 0) := fun x => below_cell x.ok (heap_cell HX.out (j := 1) rfl)
                    have xx2 : ∀ x : Among (Below y2.heap.size y2), x.val.cell? ⟨Bp, 0, none⟩ = some (.int .i64 pn) := fun x => below_cell x.ok (heap_cell HP.out (j := 0) rfl)
                    have HD1 : Hid (∀ x : Among (Below y2.heap.size y2), Calls Try.prog 25 #[.agg #[.int .i64 0, .int .i64 0], .int .i64 8, .int .i64 n] x.val fun e w' => e = .returned (.bool false) ∧ ∃ y : Among (Below y2.heap.size y2), w' = y.val) := Lib.hid (fun x => calls_class ((is_any _ _ _ _ hB x.val).mono fun e w' h => ⟨h.1, below_then x.ok h.2⟩))
                    have HSt : Hid (Below y2.heap.size y2 y2.drew) := Lib.hid (Below.refl _ _).drew
                    have hne : Nonempty (Among (Below y2.heap.size y2)) := ⟨⟨_, HSt.out⟩⟩
                    refine wp_region_class (Below y2.heap.size y2) (by kernel_rfl) (by kernel_rfl) HSt.out ?_
                    repeat (go_big_quiet_step ((first | (go_at_call 25; with_reducible exact HD1.out _))))
                    refine wpQuiet_nil ?_
                    intro w8 hx
                    have hB8 := among_out hx
                    clear hx
                    have HB8 := Lib.hid hB8
                    clear hB8 hne xx0 xx1 xx2
                    go_wp2_with fail
                    go_meet
                    exact ⟨rfl, HB8.out⟩
              case rest =>
                obtain ⟨y3, rfl⟩ : ∃ x, x = wc := ⟨_, rfl⟩
                obtain ⟨rfl, hbc⟩ := hcut
                clear HK
                replace HC := Lib.hid (heap_lift HC.out hbc)
                replace HD := Lib.hid (heap_lift HD.out hbc)
                replace HX := Lib.hid (heap_lift HX.out hbc)
                replace HY := Lib.hid (heap_lift HY.out hbc)
                replace HZ := Lib.hid (heap_lift HZ.out hbc)
                replace HBR := Lib.hid (below_then HBR.out hbc)
                clear hbc HP
                go_wp2_with fail
                have HK : Hid (∀ v : World, Below y3.heap.size y3 v → (v.cell? ⟨Bs, 0, none⟩ = some (.int .i64 0) ∧ v.cell? ⟨Bs, 1, none⟩ = some (.int .i64 0) ∧ v.cell? ⟨(Bc + 1), 0, none⟩ = some (.int .i64 o) ∧ v.cell? ⟨Bc, 0, none⟩ = some (.int .i64 b) ∧ v.cell? ⟨(Bs + 1), 0, none⟩ = some (.int .i64 s1l) ∧ v.cell? ⟨(Bs + 1), 1, none⟩ = some (.int .i64 s1h) ∧ v.cell? ⟨(Bs + 1 + 1), 0, none⟩ = some (.int .i64 s2l) ∧ v.cell? ⟨(Bs + 1 + 1), 1, none⟩ = some (.int .i64 s2h) ∧ Below y3.heap.size y3 v)) :=
                  Lib.hid (fun v k => ⟨below_cell k (heap_cell HX.out (j := 0) rfl), below_cell k (heap_cell HX.out (j := 1) rfl), below_cell k (heap_cell HD.out (j := 0) rfl), below_cell k (heap_cell HC.out (j := 0) rfl), below_cell k (heap_cell HY.out (j := 0) rfl), below_cell k (heap_cell HY.out (j := 1) rfl), below_cell k (heap_cell HZ.out (j := 0) rfl), below_cell k (heap_cell HZ.out (j := 1) rfl), k⟩)
                go_cut [159] from 109 to 159 (fun s wx => s = .bool false ∧ Below y3.heap.size y3 wx)
                case first =>
                  have hob3 : decide (o < b) = true := decide_eq_true hob
                  cases e1' : isV s1l s1h e1 n with
                  | true =>
                    have hB1 := Lib.hid e1'
                    have hB : Hid (isV 0 0 8 n = true) := Lib.hid (by rw [hJ1, e1']; rfl)
                    clear e1'
                    as_aux_lemma =>
                      have xx0 : ∀ x : Among (Below y3.heap.size y3), x.val.cell? ⟨Bs, 0, none⟩ = some (.int .i64 0) := fun x => below_cell x.ok (heap_cell HX.out (j := 0) rfl)
                      have xx1 : ∀ x : Among (Below y3.heap.size y3), x.val.cell? ⟨Bs, 1, none⟩ = some (.int .i64 0) := fun x => below_cell x.ok (heap_cell HX.out (j := 1) rfl)
                      have xx2 : ∀ x : Among (Below y3.heap.size y3), x.val.cell? ⟨(Bc + 1), 0, none⟩ = some (.int .i64 o) := fun x => below_cell x.ok (heap_cell HD.out (j := 0) rfl)
                      have xx3 : ∀ x : Among (Below y3.heap.size y3), x.val.cell? ⟨Bc, 0, none⟩ = some (.int .i64 b) := fun x => below_cell x.ok (heap_cell HC.out (j := 0) rfl)
                      have xx4 : ∀ x : Among (Below y3.heap.size y3), x.val.cell? ⟨(Bs + 1), 0, none⟩ = some (.int .i64 s1l) := fun x => below_cell x.ok (heap_cell HY.out (j := 0) rfl)
                      have xx5 : ∀ x : Among (Below y3.heap.size y3), x.val.cell? ⟨(Bs + 1), 1, none⟩ = some (.int .i64 s1h) := fun x => below_cell x.ok (heap_cell HY.out (j := 1) rfl)
                      have xx6 : ∀ x : Among (Below y3.heap.size y3), x.val.cell? ⟨(Bs + 1 + 1), 0, none⟩ = some (.int .i64 s2l) := fun x => below_cell x.ok (heap_cell HZ.out (j := 0) rfl)
                      have xx7 : ∀ x : Among (Below y3.heap.size y3), x.val.cell? ⟨(Bs + 1 + 1), 1, none⟩ = some (.int .i64 s2h) := fun x => below_cell x.ok (heap_cell HZ.out (j := 1) rfl)
                      have HD1 : Hid (∀ x : Among (Below y3.heap.size y3), Calls Try.prog 25 #[.agg #[.int .i64 0, .int .i64 0], .int .i64 8, .int .i64 n] x.val fun e w' => e = .returned (.bool true) ∧ ∃ y : Among (Below y3.heap.size y3), w' = y.val) := Lib.hid (fun x => calls_class ((is_any _ _ _ _ hB x.val).mono fun e w' h => ⟨h.1, below_then x.ok h.2⟩))
                      have HD2 : Hid (∀ x : Among (Below y3.heap.size y3), Calls Try.prog 25 #[.agg #[.int .i64 s1l, .int .i64 s1h], .int .i64 e1, .int .i64 n] x.val fun e w' => e = .returned (.bool true) ∧ ∃ y : Among (Below y3.heap.size y3), w' = y.val) := Lib.hid (fun x => calls_class ((is_any _ _ _ _ hB1 x.val).mono fun e w' h => ⟨h.1, below_then x.ok h.2⟩))
                      have HSt : Hid (Below y3.heap.size y3 y3.drew) := Lib.hid (Below.refl _ _).drew
                      have hne : Nonempty (Among (Below y3.heap.size y3)) := ⟨⟨_, HSt.out⟩⟩
                      refine wp_region_class (Below y3.heap.size y3) (by kernel_rfl) (by kernel_rfl) HSt.out ?_
                      repeat (go_big_quiet_step ((first | (go_at_call 25; first | with_reducible exact HD1.out _ | with_reducible exact HD2.out _))))
                      refine wpQuiet_nil ?_
                      intro w8 hx
                      have hB8 := among_out hx
                      clear hx
                      have HB8 := Lib.hid hB8
                      clear hB8 hne xx0 xx1 xx2 xx3 xx4 xx5 xx6 xx7
                      go_wp2_with fail
                      go_meet
                      exact ⟨rfl, HB8.out⟩
                  | false =>
                    have hB1 := Lib.hid e1'
                    cases e2' : isV s2l s2h e2 n with
                    | true =>
                      have hB2 := Lib.hid e2'
                      have hB : Hid (isV 0 0 8 n = true) := Lib.hid (by rw [hJ1, e1', e2']; rfl)
                      clear e1' e2'
                      as_aux_lemma =>
                        have xx0 : ∀ x : Among (Below y3.heap.size y3), x.val.cell? ⟨Bs, 0, none⟩ = some (.int .i64 0) := fun x => below_cell x.ok (heap_cell HX.out (j := 0) rfl)
                        have xx1 : ∀ x : Among (Below y3.heap.size y3), x.val.cell? ⟨Bs, 1, none⟩ = some (.int .i64 0) := fun x => below_cell x.ok (heap_cell HX.out (j := 1) rfl)
                        have xx2 : ∀ x : Among (Below y3.heap.size y3), x.val.cell? ⟨(Bc + 1), 0, none⟩ = some (.int .i64 o) := fun x => below_cell x.ok (heap_cell HD.out (j := 0) rfl)
                        have xx3 : ∀ x : Among (Below y3.heap.size y3), x.val.cell? ⟨Bc, 0, none⟩ = some (.int .i64 b) := fun x => below_cell x.ok (heap_cell HC.out (j := 0) rfl)
                        have xx4 : ∀ x : Among (Below y3.heap.size y3), x.val.cell? ⟨(Bs + 1), 0, none⟩ = some (.int .i64 s1l) := fun x => below_cell x.ok (heap_cell HY.out (j := 0) rfl)
                        have xx5 : ∀ x : Among (Below y3.heap.size y3), x.val.cell? ⟨(Bs + 1), 1, none⟩ = some (.int .i64 s1h) := fun x => below_cell x.ok (heap_cell HY.out (j := 1) rfl)
                        have xx6 : ∀ x : Among (Below y3.heap.size y3), x.val.cell? ⟨(Bs + 1 + 1), 0, none⟩ = some (.int .i64 s2l) := fun x => below_cell x.ok (heap_cell HZ.out (j := 0) rfl)
                        have xx7 : ∀ x : Among (Below y3.heap.size y3), x.val.cell? ⟨(Bs + 1 + 1), 1, none⟩ = some (.int .i64 s2h) := fun x => below_cell x.ok (heap_cell HZ.out (j := 1) rfl)
                        have HD1 : Hid (∀ x : Among (Below y3.heap.size y3), Calls Try.prog 25 #[.agg #[.int .i64 0, .int .i64 0], .int .i64 8, .int .i64 n] x.val fun e w' => e = .returned (.bool true) ∧ ∃ y : Among (Below y3.heap.size y3), w' = y.val) := Lib.hid (fun x => calls_class ((is_any _ _ _ _ hB x.val).mono fun e w' h => ⟨h.1, below_then x.ok h.2⟩))
                        have HD2 : Hid (∀ x : Among (Below y3.heap.size y3), Calls Try.prog 25 #[.agg #[.int .i64 s1l, .int .i64 s1h], .int .i64 e1, .int .i64 n] x.val fun e w' => e = .returned (.bool false) ∧ ∃ y : Among (Below y3.heap.size y3), w' = y.val) := Lib.hid (fun x => calls_class ((is_any _ _ _ _ hB1 x.val).mono fun e w' h => ⟨h.1, below_then x.ok h.2⟩))
                        have HD3 : Hid (∀ x : Among (Below y3.heap.size y3), Calls Try.prog 25 #[.agg #[.int .i64 s2l, .int .i64 s2h], .int .i64 e2, .int .i64 n] x.val fun e w' => e = .returned (.bool true) ∧ ∃ y : Among (Below y3.heap.size y3), w' = y.val) := Lib.hid (fun x => calls_class ((is_any _ _ _ _ hB2 x.val).mono fun e w' h => ⟨h.1, below_then x.ok h.2⟩))
                        have HSt : Hid (Below y3.heap.size y3 y3.drew) := Lib.hid (Below.refl _ _).drew
                        have hne : Nonempty (Among (Below y3.heap.size y3)) := ⟨⟨_, HSt.out⟩⟩
                        refine wp_region_class (Below y3.heap.size y3) (by kernel_rfl) (by kernel_rfl) HSt.out ?_
                        repeat (go_big_quiet_step ((first | (go_at_call 25; first | with_reducible exact HD1.out _ | with_reducible exact HD2.out _ | with_reducible exact HD3.out _))))
                        refine wpQuiet_nil ?_
                        intro w8 hx
                        have hB8 := among_out hx
                        clear hx
                        have HB8 := Lib.hid hB8
                        clear hB8 hne xx0 xx1 xx2 xx3 xx4 xx5 xx6 xx7
                        go_wp2_with fail
                        go_meet
                        exact ⟨rfl, HB8.out⟩
                    | false =>
                      have hB2 := Lib.hid e2'
                      have hB : Hid (isV 0 0 8 n = false) := Lib.hid (by rw [hJ1, e1', e2']; rfl)
                      clear e1' e2'
                      as_aux_lemma =>
                        have xx0 : ∀ x : Among (Below y3.heap.size y3), x.val.cell? ⟨Bs, 0, none⟩ = some (.int .i64 0) := fun x => below_cell x.ok (heap_cell HX.out (j := 0) rfl)
                        have xx1 : ∀ x : Among (Below y3.heap.size y3), x.val.cell? ⟨Bs, 1, none⟩ = some (.int .i64 0) := fun x => below_cell x.ok (heap_cell HX.out (j := 1) rfl)
                        have xx2 : ∀ x : Among (Below y3.heap.size y3), x.val.cell? ⟨(Bc + 1), 0, none⟩ = some (.int .i64 o) := fun x => below_cell x.ok (heap_cell HD.out (j := 0) rfl)
                        have xx3 : ∀ x : Among (Below y3.heap.size y3), x.val.cell? ⟨Bc, 0, none⟩ = some (.int .i64 b) := fun x => below_cell x.ok (heap_cell HC.out (j := 0) rfl)
                        have xx4 : ∀ x : Among (Below y3.heap.size y3), x.val.cell? ⟨(Bs + 1), 0, none⟩ = some (.int .i64 s1l) := fun x => below_cell x.ok (heap_cell HY.out (j := 0) rfl)
                        have xx5 : ∀ x : Among (Below y3.heap.size y3), x.val.cell? ⟨(Bs + 1), 1, none⟩ = some (.int .i64 s1h) := fun x => below_cell x.ok (heap_cell HY.out (j := 1) rfl)
                        have xx6 : ∀ x : Among (Below y3.heap.size y3), x.val.cell? ⟨(Bs + 1 + 1), 0, none⟩ = some (.int .i64 s2l) := fun x => below_cell x.ok (heap_cell HZ.out (j := 0) rfl)
                        have xx7 : ∀ x : Among (Below y3.heap.size y3), x.val.cell? ⟨(Bs + 1 + 1), 1, none⟩ = some (.int .i64 s2h) := fun x => below_cell x.ok (heap_cell HZ.out (j := 1) rfl)
                        have HD1 : Hid (∀ x : Among (Below y3.heap.size y3), Calls Try.prog 25 #[.agg #[.int .i64 0, .int .i64 0], .int .i64 8, .int .i64 n] x.val fun e w' => e = .returned (.bool false) ∧ ∃ y : Among (Below y3.heap.size y3), w' = y.val) := Lib.hid (fun x => calls_class ((is_any _ _ _ _ hB x.val).mono fun e w' h => ⟨h.1, below_then x.ok h.2⟩))
                        have HD2 : Hid (∀ x : Among (Below y3.heap.size y3), Calls Try.prog 25 #[.agg #[.int .i64 s1l, .int .i64 s1h], .int .i64 e1, .int .i64 n] x.val fun e w' => e = .returned (.bool false) ∧ ∃ y : Among (Below y3.heap.size y3), w' = y.val) := Lib.hid (fun x => calls_class ((is_any _ _ _ _ hB1 x.val).mono fun e w' h => ⟨h.1, below_then x.ok h.2⟩))
                        have HD3 : Hid (∀ x : Among (Below y3.heap.size y3), Calls Try.prog 25 #[.agg #[.int .i64 s2l, .int .i64 s2h], .int .i64 e2, .int .i64 n] x.val fun e w' => e = .returned (.bool false) ∧ ∃ y : Among (Below y3.heap.size y3), w' = y.val) := Lib.hid (fun x => calls_class ((is_any _ _ _ _ hB2 x.val).mono fun e w' h => ⟨h.1, below_then x.ok h.2⟩))
                        have HSt : Hid (Below y3.heap.size y3 y3.drew) := Lib.hid (Below.refl _ _).drew
                        have hne : Nonempty (Among (Below y3.heap.size y3)) := ⟨⟨_, HSt.out⟩⟩
                        refine wp_region_class (Below y3.heap.size y3) (by kernel_rfl) (by kernel_rfl) HSt.out ?_
                        repeat (go_big_quiet_step ((first | (go_at_call 25; first | with_reducible exact HD1.out _ | with_reducible exact HD2.out _ | with_reducible exact HD3.out _))))
                        refine wpQuiet_nil ?_
                        intro w8 hx
                        have hB8 := among_out hx
                        clear hx
                        have HB8 := Lib.hid hB8
                        clear hB8 hne xx0 xx1 xx2 xx3 xx4 xx5 xx6 xx7
                        go_wp2_with fail
                        go_meet
                        exact ⟨rfl, HB8.out⟩
                case rest =>
                  obtain ⟨y4, rfl⟩ : ∃ x, x = wc := ⟨_, rfl⟩
                  obtain ⟨rfl, hbc⟩ := hcut
                  clear HK
                  replace HC := Lib.hid (heap_lift HC.out hbc)
                  replace HD := Lib.hid (heap_lift HD.out hbc)
                  replace HBR := Lib.hid (below_then HBR.out hbc)
                  clear hbc HX HY HZ hI1 hp1 hp2 hJ1
                  go_wp2_with fail
                  go_roundw
                  case rel => exact ⟨k + 1, by rw [HNS.out]; omega, by rw [HNS.out], HBR.out⟩
                  case measure => (simp [intOf] <;> omega)
            · obtain rfl : n = hi + 1 := by omega
              replace HB := Lib.hid (below_then HB.out HBR.out)
              clear HBR HY HZ HN HNS
              have c0 := heap_cell HC.out (j := 0) rfl
              have c1 := heap_cell HC.out (j := 1) rfl
              have c2 := heap_cell HC.out (j := 2) rfl
              have g0 := heap_cell HD.out (j := 0) rfl
              have g1 := heap_cell HD.out (j := 1) rfl
              go_wp2_with fail
              refine (restV hrb hrl hrh hre _).mono ?_
              rintro e r1 ⟨rfl, hb1⟩
              replace HC := Lib.hid (heap_lift HC.out hb1)
              replace HD := Lib.hid (heap_lift HD.out hb1)
              replace HX := Lib.hid (heap_lift HX.out hb1)
              replace HB := Lib.hid (below_then HB.out hb1)
              clear hb1 c0 c1 c2 g0 g1
              go_upto_region 22 with fail
              have hb2 : Below r1.heap.size r1 (r1.alloc (.cells #[.int .i64 0, .int .i64 0, .int .i64 0] 25)) := (Below.refl _ _).alloc (Nat.le_refl _) _
              replace HC := Lib.hid (heap_lift HC.out hb2)
              replace HD := Lib.hid (heap_lift HD.out hb2)
              replace HX := Lib.hid (heap_lift HX.out hb2)
              replace HB := Lib.hid (below_then HB.out hb2)
              have hx := heap_top r1 (.cells #[.int .i64 0, .int .i64 0, .int .i64 0] 25) rfl
              obtain ⟨Br, hBr⟩ : ∃ B, r1.heap.size = B := ⟨_, rfl⟩
              obtain ⟨r2, hr2⟩ : ∃ v, r1.alloc (.cells #[.int .i64 0, .int .i64 0, .int .i64 0] 25) = v := ⟨_, rfl⟩
              rw [hBr] at hx
              rw [hr2] at HC HD HX HB hx
              rw [hr2, hBr]
              have HR := Lib.hid hx
              clear hb2 hx hBr hr2
              have c0 := heap_cell HC.out (j := 0) rfl
              have c1 := heap_cell HC.out (j := 1) rfl
              have c2 := heap_cell HC.out (j := 2) rfl
              have g0 := heap_cell HD.out (j := 0) rfl
              have g1 := heap_cell HD.out (j := 1) rfl
              have k0 := heap_cell HX.out (j := 0) rfl
              have k1 := heap_cell HX.out (j := 1) rfl
              have m0 := heap_cell HR.out (j := 0) rfl
              have m1 := heap_cell HR.out (j := 1) rfl
              have m2 := heap_cell HR.out (j := 2) rfl
              go_wp2_with fail
              go_ret
              exact ⟨rfl, HB.out⟩

set_option maxHeartbeats 16000000 in
set_option maxRecDepth 100000 in
theorem can_no_eq (b lo hi o f S : Int) (hc : Hid (Pure.okCargo b lo hi = true)) (hdr : Hid (Pure.okDraw b o f = true)) (b1 : 1 ≤ b) (b2 : b ≤ 36) (l0 : 0 ≤ lo) (l1 : lo ≤ hi) (hbb : hi ≤ b) (o0 : 0 ≤ o) (o1 : o ≤ b) (f0 : 0 ≤ f) (f1 : f ≤ o)
    (hsl : Hid (Pure.pick (Pure.canE b lo hi o f) (Pure.fst b (Pure.nums b.toNat lo hi o f)) = 0)) (hsh : Hid (Pure.pick (Pure.canE b lo hi o f) (Pure.lst (Pure.nums b.toNat lo hi o f)) = 0)) (hec : Hid (Pure.canE b lo hi o f = 8))
    (hob1 : b ≤ o)
    (hI : Hid (∀ n : Int, lo ≤ n → n ≤ hi → isV 0 0 8 n = decide (0 < Pure.ways b n o f))) (hS : Hid (Pure.sets b o = S)) (s0 : 0 < S)
    (hrb : Hid (Pure.pick (Pure.restE b lo hi o f) (b - o) = 0)) (hrl : Hid (Pure.pick (Pure.restE b lo hi o f) (Pure.fst b (Pure.nums b.toNat lo hi o f) - f) = 0)) (hrh : Hid (Pure.pick (Pure.restE b lo hi o f) (Pure.lst (Pure.nums b.toNat lo hi o f) - f) = 0)) (hre : Hid (Pure.restE b lo hi o f = 8)) (w : World) :
    Calls Try.prog 4 #[cargoV b lo hi, .agg #[.int .i64 o, .int .i64 f]] w fun e w' => e = .returned (.bool true) ∧ Below w.heap.size w w' := by
  go_enter Try.func4, Try.ntmps4
  go_wp2_with fail
  refine (alive_any _).mono ?_
  rintro e w1 ⟨rfl, hb1⟩
  have hcc := heap_lift (heap_up (heap_top w (.cells #[.int .i64 b, .int .i64 lo, .int .i64 hi] 25) rfl) (.cells #[.int .i64 o, .int .i64 f] 57)) hb1
  have hdd := heap_lift (heap_top (w.alloc (.cells #[.int .i64 b, .int .i64 lo, .int .i64 hi] 25)) (.cells #[.int .i64 o, .int .i64 f] 57) rfl) hb1
  have HC := Lib.hid hcc
  have HD := Lib.hid hdd
  have HB := Lib.hid (below_then (((Below.refl _ _).alloc (Nat.le_refl _) (.cells #[.int .i64 b, .int .i64 lo, .int .i64 hi] 25)).alloc (by simp) (.cells #[.int .i64 o, .int .i64 f] 57)) hb1)
  obtain ⟨Bc, hBc⟩ : ∃ Bc, w.heap.size = Bc := ⟨_, rfl⟩
  have hBd : (w.alloc (.cells #[.int .i64 b, .int .i64 lo, .int .i64 hi] 25)).heap.size = Bc + 1 := by rw [← hBc]; simp
  rw [hBd] at HD
  rw [hBc] at HC
  have c0 := heap_cell HC.out (j := 0) rfl
  have c1 := heap_cell HC.out (j := 1) rfl
  have c2 := heap_cell HC.out (j := 2) rfl
  have g0 := heap_cell HD.out (j := 0) rfl
  have g1 := heap_cell HD.out (j := 1) rfl
  clear hcc hdd hb1 hBd
  go_wp2_with fail
  clear hBc
  refine (rCargo_any b lo hi _).mono ?_
  rw [hc.out]
  rintro e w2 ⟨rfl, rfl⟩
  obtain ⟨w2, hw2⟩ : ∃ w2, w1.alloc (.cells #[.int .i64 b, .int .i64 lo, .int .i64 hi] 25) = w2 := ⟨_, rfl⟩
  replace HC := Lib.hid (heap_up HC.out (.cells #[.int .i64 b, .int .i64 lo, .int .i64 hi] 25))
  replace HD := Lib.hid (heap_up HD.out (.cells #[.int .i64 b, .int .i64 lo, .int .i64 hi] 25))
  replace HB := Lib.hid (HB.out.alloc HB.out.size (.cells #[.int .i64 b, .int .i64 lo, .int .i64 hi] 25))
  rw [hw2] at HC HD HB
  rw [hw2]
  clear c0 c1 c2 g0 g1 hw2
  have c0 := heap_cell HC.out (j := 0) rfl
  have c1 := heap_cell HC.out (j := 1) rfl
  have c2 := heap_cell HC.out (j := 2) rfl
  have g0 := heap_cell HD.out (j := 0) rfl
  have g1 := heap_cell HD.out (j := 1) rfl
  go_wp2_with fail
  refine (rDraw_any b lo hi o f _).mono ?_
  rw [hdr.out]
  rintro e w3 ⟨rfl, rfl⟩
  obtain ⟨w3, hw3⟩ : ∃ w3, (w2.alloc (.cells #[.int .i64 b, .int .i64 lo, .int .i64 hi] 25)).alloc (.cells #[.int .i64 o, .int .i64 f] 57) = w3 := ⟨_, rfl⟩
  have hb3 : Below w2.heap.size w2 w3 := by rw [← hw3]; exact ((Below.refl _ _).alloc (Nat.le_refl _) _).alloc (by simp) _
  replace HC := Lib.hid (heap_lift HC.out hb3)
  replace HD := Lib.hid (heap_lift HD.out hb3)
  replace HB := Lib.hid (HB.out.trans (hb3.mono HB.out.size))
  rw [hw3]
  clear hb3 hw3 c0 c1 c2 g0 g1
  have c0 := heap_cell HC.out (j := 0) rfl
  have c1 := heap_cell HC.out (j := 1) rfl
  have c2 := heap_cell HC.out (j := 2) rfl
  have g0 := heap_cell HD.out (j := 0) rfl
  have g1 := heap_cell HD.out (j := 1) rfl
  go_wp2_with fail
  refine (canV hsl hsh hec _).mono ?_
  rintro e v1 ⟨rfl, hb1⟩
  replace HC := Lib.hid (heap_lift HC.out hb1)
  replace HD := Lib.hid (heap_lift HD.out hb1)
  replace HB := Lib.hid (below_then HB.out hb1)
  clear hb1 c0 c1 c2 g0 g1
  go_upto_region 5 with fail
  have hb2 : Below v1.heap.size v1 (v1.alloc (.cells #[.int .i64 0, .int .i64 0] 23)) := (Below.refl _ _).alloc (Nat.le_refl _) (.cells #[.int .i64 0, .int .i64 0] 23)
  have hx := heap_top v1 (.cells #[.int .i64 0, .int .i64 0] 23) rfl
  have hlt : Bc + 1 < v1.heap.size ∧ w.heap.size ≤ v1.heap.size := ⟨(Array.getElem?_eq_some_iff.1 HD.out).1, HB.out.size⟩
  replace HC := Lib.hid (heap_lift HC.out hb2)
  replace HD := Lib.hid (heap_lift HD.out hb2)
  replace HB := Lib.hid (below_then HB.out hb2)
  obtain ⟨Bs, hBs⟩ : ∃ B, v1.heap.size = B := ⟨_, rfl⟩
  obtain ⟨v1', hv1'⟩ : ∃ v, v1.alloc (.cells #[.int .i64 0, .int .i64 0] 23) = v := ⟨_, rfl⟩
  have hsz : v1'.heap.size = Bs + 1 := by rw [← hv1', ← hBs]; simp
  rw [hBs] at hx hlt
  rw [hv1'] at HC HD HB hx
  rw [hv1', hBs]
  have HX := Lib.hid hx
  have HLT := Lib.hid hlt
  clear hb2 hx hlt hBs hv1'
  have c0 := heap_cell HC.out (j := 0) rfl
  have c1 := heap_cell HC.out (j := 1) rfl
  have c2 := heap_cell HC.out (j := 2) rfl
  have g0 := heap_cell HD.out (j := 0) rfl
  have g1 := heap_cell HD.out (j := 1) rfl
  have k0 := heap_cell HX.out (j := 0) rfl
  have k1 := heap_cell HX.out (j := 1) rfl
  go_upto_region 10 with fail
  have hy := heap_up (heap_top v1' (.cells #[.int .i64 0, .int .i64 0] 23) rfl) (.cells #[.int .i64 0, .int .i64 0] 23)
  have hz := heap_top (v1'.alloc (.cells #[.int .i64 0, .int .i64 0] 23)) (.cells #[.int .i64 0, .int .i64 0] 23) rfl
  have hb2 : Below v1'.heap.size v1' ((v1'.alloc (.cells #[.int .i64 0, .int .i64 0] 23)).alloc (.cells #[.int .i64 0, .int .i64 0] 23)) := ((Below.refl _ _).alloc (Nat.le_refl _) (.cells #[.int .i64 0, .int .i64 0] 23)).alloc (by simp) (.cells #[.int .i64 0, .int .i64 0] 23)
  replace HC := Lib.hid (heap_lift HC.out hb2)
  replace HD := Lib.hid (heap_lift HD.out hb2)
  replace HX := Lib.hid (heap_lift HX.out hb2)
  replace HB := Lib.hid (below_then HB.out hb2)
  have hB2 : (v1'.alloc (.cells #[.int .i64 0, .int .i64 0] 23)).heap.size = Bs + 1 + 1 := by simp [hsz]
  obtain ⟨v2, hv2⟩ : ∃ v, (v1'.alloc (.cells #[.int .i64 0, .int .i64 0] 23)).alloc (.cells #[.int .i64 0, .int .i64 0] 23) = v := ⟨_, rfl⟩
  rw [hsz] at hy
  rw [hB2] at hz
  rw [hv2] at HC HD HX HB hy hz
  have HY := Lib.hid hy
  have HZ := Lib.hid hz
  rw [hv2]
  try rw [hsz]
  clear hy hz hb2 hsz hB2 hv2 c0 c1 c2 g0 g1 k0 k1
  have c0 := heap_cell HC.out (j := 0) rfl
  have c1 := heap_cell HC.out (j := 1) rfl
  have c2 := heap_cell HC.out (j := 2) rfl
  have g0 := heap_cell HD.out (j := 0) rfl
  have g1 := heap_cell HD.out (j := 1) rfl
  go_upto_region 13 with fail
  clear c0 c1 c2 g0 g1
  have c1 := heap_cell HC.out (j := 1) rfl
  go_wp2_with fail
  clear c1
  go_loopw [13] (fun i wr => ∃ k : Nat, lo + k ≤ hi + 1 ∧ i = .int .i64 (lo + k) ∧ Below v2.heap.size v2 wr) (fun i _ => (hi + 1 - intOf i).toNat)
  case atStart => exact ⟨0, by omega, by simp, Below.refl _ _⟩
  case round =>
    obtain ⟨k, hk, rfl, hbr⟩ := hrel
    have HBR := Lib.hid hbr
    replace HC := Lib.hid (heap_lift HC.out hbr)
    replace HD := Lib.hid (heap_lift HD.out hbr)
    replace HX := Lib.hid (heap_lift HX.out hbr)
    replace HY := Lib.hid (heap_lift HY.out hbr)
    replace HZ := Lib.hid (heap_lift HZ.out hbr)
    obtain ⟨n, hn⟩ : ∃ n, lo + (k : Int) = n := ⟨_, rfl⟩
    have n0 : lo ≤ n := by omega
    have n1 : n ≤ hi + 1 := by omega
    have HN := Lib.hid hn
    have HNS : Hid (lo + ((k + 1 : Nat) : Int) = n + 1) := Lib.hid (by rw [← hn]; omega)
    rw [hn]
    clear hbr hn hk
    by_cases hk1 : n ≤ hi
    · obtain ⟨M, hM⟩ : ∃ M, Pure.ways b n o f = M := ⟨_, rfl⟩
      have m0 : 0 ≤ M := by rw [← hM]; exact Pure.ways_nonneg _ _ _ _
      have HV : Hid (partV (Pure.ways b n o f) (Pure.sets b o) = .agg #[.int .i64 (M / Pure.gcd M S), .int .i64 (S / Pure.gcd M S)]) := Lib.hid (by rw [hM, hS.out])
      obtain ⟨hp1, hp2⟩ := low_pos (pn := M / Pure.gcd M S) (pd := S / Pure.gcd M S) m0 s0 rfl
      obtain ⟨pn, hpn⟩ : ∃ pn, M / Pure.gcd M S = pn := ⟨_, rfl⟩
      obtain ⟨pd, hpd⟩ : ∃ pd, S / Pure.gcd M S = pd := ⟨_, rfl⟩
      rw [hpn, hpd] at HV
      rw [hpn] at hp1 hp2
      have hI1 := hI.out n n0 hk1
      rw [hM] at hI1
      clear hM hpn hpd
      have c0 := heap_cell HC.out (j := 0) rfl
      have c1 := heap_cell HC.out (j := 1) rfl
      have c2 := heap_cell HC.out (j := 2) rfl
      have g0 := heap_cell HD.out (j := 0) rfl
      have g1 := heap_cell HD.out (j := 1) rfl
      go_wp2_with fail
      refine (chanceV hc.out n0 hk1 o0 o1 f0 f1 HV _).mono ?_
      rintro e y1 ⟨rfl, hb1⟩
      have hb2 := hb1.alloc hb1.size (.cells #[.int .i64 pn, .int .i64 pd] 31)
      replace HC := Lib.hid (heap_lift HC.out hb2)
      replace HD := Lib.hid (heap_lift HD.out hb2)
      replace HX := Lib.hid (heap_lift HX.out hb2)
      replace HY := Lib.hid (heap_lift HY.out hb2)
      replace HZ := Lib.hid (heap_lift HZ.out hb2)
      replace HBR := Lib.hid (below_then HBR.out hb2)
      have hx := heap_top y1 (.cells #[.int .i64 pn, .int .i64 pd] 31) rfl
      obtain ⟨Bp, hBp⟩ : ∃ B, y1.heap.size = B := ⟨_, rfl⟩
      obtain ⟨y2, hy2⟩ : ∃ v, y1.alloc (.cells #[.int .i64 pn, .int .i64 pd] 31) = v := ⟨_, rfl⟩
      rw [hBp] at hx
      rw [hy2] at HC HD HX HY HZ HBR hx
      have HP := Lib.hid hx
      clear hb1 hb2 hx c0 c1 c2 g0 g1
      go_wp2_with fail
      clear hBp hy2
      have HK : Hid (∀ v : World, Below y2.heap.size y2 v → (v.cell? ⟨Bs, 0, none⟩ = some (.int .i64 0) ∧ v.cell? ⟨Bs, 1, none⟩ = some (.int .i64 0) ∧ v.cell? ⟨Bp, 0, none⟩ = some (.int .i64 pn) ∧ Below y2.heap.size y2 v)) :=
        Lib.hid (fun v k => ⟨below_cell k (heap_cell HX.out (j := 0) rfl), below_cell k (heap_cell HX.out (j := 1) rfl), below_cell k (heap_cell HP.out (j := 0) rfl), k⟩)
      go_cut [134] from 109 to 159 (fun s wx => s = .bool false ∧ Below y2.heap.size y2 wx)
      case first =>
        by_cases hm : 0 < M
        · have hB : Hid (isV 0 0 8 n = true) := Lib.hid (by rw [hI1, decide_eq_true hm])
          have hpp := hp1 hm
          as_aux_lemma =>
            have xx0 : ∀ x : Among (Below y2.heap.size y2), x.val.cell? ⟨Bs, 0, none⟩ = some (.int .i64 0) := fun x => below_cell x.ok (heap_cell HX.out (j := 0) rfl)
            have xx1 : ∀ x : Among (Below y2.heap.size y2), x.val.cell? ⟨Bs, 1, none⟩ = some (.int .i64 0) := fun x => below_cell x.ok (heap_cell HX.out (j := 1) rfl)
            have xx2 : ∀ x : Among (Below y2.heap.size y2), x.val.cell? ⟨Bp, 0, none⟩ = some (.int .i64 pn) := fun x => below_cell x.ok (heap_cell HP.out (j := 0) rfl)
            have HD1 : Hid (∀ x : Among (Below y2.heap.size y2), Calls Try.prog 25 #[.agg #[.int .i64 0, .int .i64 0], .int .i64 8, .int .i64 n] x.val fun e w' => e = .returned (.bool true) ∧ ∃ y : Among (Below y2.heap.size y2), w' = y.val) := Lib.hid (fun x => calls_class ((is_any _ _ _ _ hB x.val).mono fun e w' h => ⟨h.1, below_then x.ok h.2⟩))
            have HSt : Hid (Below y2.heap.size y2 y2.drew) := Lib.hid (Below.refl _ _).drew
            have hne : Nonempty (Among (Below y2.heap.size y2)) := ⟨⟨_, HSt.out⟩⟩
            refine wp_region_class (Below y2.heap.size y2) (by kernel_rfl) (by kernel_rfl) HSt.out ?_
            repeat (go_big_quiet_step ((first | (go_at_call 25; with_reducible exact HD1.out _))))
            refine wpQuiet_nil ?_
            intro w8 hx
            have hB8 := among_out hx
            clear hx
            have HB8 := Lib.hid hB8
            clear hB8 hne xx0 xx1 xx2
            go_wp2_with fail
            go_meet
            exact ⟨rfl, HB8.out⟩
        · have hB : Hid (isV 0 0 8 n = false) := Lib.hid (by rw [hI1, decide_eq_false hm])
          have hpp : pn ≤ 0 := by have := hp2 (by omega); omega
          have hpd' : decide (0 < pn) = false := decide_eq_false (by omega)
          as_aux_lemma =>
            have xx0 : ∀ x : Among (Below y2.heap.size y2), x.val.cell? ⟨Bs, 0, none⟩ = some (.int .i64 0) := fun x => below_cell x.ok (heap_cell HX.out (j := 0) rfl)
            have xx1 : ∀ x : Among (Below y2.heap.size y2), x.val.cell? ⟨Bs, 1, none⟩ = some (.int .i64 0) := fun x => below_cell x.ok (heap_cell HX.out (j := 1) rfl)
            have xx2 : ∀ x : Among (Below y2.heap.size y2), x.val.cell? ⟨Bp, 0, none⟩ = some (.int .i64 pn) := fun x => below_cell x.ok (heap_cell HP.out (j := 0) rfl)
            have HD1 : Hid (∀ x : Among (Below y2.heap.size y2), Calls Try.prog 25 #[.agg #[.int .i64 0, .int .i64 0], .int .i64 8, .int .i64 n] x.val fun e w' => e = .returned (.bool false) ∧ ∃ y : Among (Below y2.heap.size y2), w' = y.val) := Lib.hid (fun x => calls_class ((is_any _ _ _ _ hB x.val).mono fun e w' h => ⟨h.1, below_then x.ok h.2⟩))
            have HSt : Hid (Below y2.heap.size y2 y2.drew) := Lib.hid (Below.refl _ _).drew
            have hne : Nonempty (Among (Below y2.heap.size y2)) := ⟨⟨_, HSt.out⟩⟩
            refine wp_region_class (Below y2.heap.size y2) (by kernel_rfl) (by kernel_rfl) HSt.out ?_
            repeat (go_big_quiet_step ((first | (go_at_call 25; with_reducible exact HD1.out _))))
            refine wpQuiet_nil ?_
            intro w8 hx
            have hB8 := among_out hx
            clear hx
            have HB8 := Lib.hid hB8
            clear hB8 hne xx0 xx1 xx2
            go_wp2_with fail
            go_meet
            exact ⟨rfl, HB8.out⟩
      case rest =>
        obtain ⟨y3, rfl⟩ : ∃ x, x = wc := ⟨_, rfl⟩
        obtain ⟨rfl, hbc⟩ := hcut
        clear HK
        replace HC := Lib.hid (heap_lift HC.out hbc)
        replace HD := Lib.hid (heap_lift HD.out hbc)
        replace HX := Lib.hid (heap_lift HX.out hbc)
        replace HY := Lib.hid (heap_lift HY.out hbc)
        replace HZ := Lib.hid (heap_lift HZ.out hbc)
        replace HBR := Lib.hid (below_then HBR.out hbc)
        clear hbc HP
        go_wp2_with fail
        have HK : Hid (∀ v : World, Below y3.heap.size y3 v → (v.cell? ⟨Bs, 0, none⟩ = some (.int .i64 0) ∧ v.cell? ⟨Bs, 1, none⟩ = some (.int .i64 0) ∧ v.cell? ⟨(Bc + 1), 0, none⟩ = some (.int .i64 o) ∧ v.cell? ⟨Bc, 0, none⟩ = some (.int .i64 b) ∧ Below y3.heap.size y3 v)) :=
          Lib.hid (fun v k => ⟨below_cell k (heap_cell HX.out (j := 0) rfl), below_cell k (heap_cell HX.out (j := 1) rfl), below_cell k (heap_cell HD.out (j := 0) rfl), below_cell k (heap_cell HC.out (j := 0) rfl), k⟩)
        go_cut [159] from 109 to 159 (fun s wx => s = .bool false ∧ Below y3.heap.size y3 wx)
        case first =>
          have hob3 : decide (o < b) = false := decide_eq_false (by omega)
          as_aux_lemma =>
            have c0 := heap_cell HC.out (j := 0) rfl
            have g0 := heap_cell HD.out (j := 0) rfl
            go_quiet (fail)
            go_wp2_with fail
            go_meet
            exact ⟨rfl, below_draws _ _⟩
        case rest =>
          obtain ⟨y4, rfl⟩ : ∃ x, x = wc := ⟨_, rfl⟩
          obtain ⟨rfl, hbc⟩ := hcut
          clear HK
          replace HC := Lib.hid (heap_lift HC.out hbc)
          replace HD := Lib.hid (heap_lift HD.out hbc)
          replace HBR := Lib.hid (below_then HBR.out hbc)
          clear hbc HX HY HZ hI1 hp1 hp2
          go_wp2_with fail
          go_roundw
          case rel => exact ⟨k + 1, by rw [HNS.out]; omega, by rw [HNS.out], HBR.out⟩
          case measure => (simp [intOf] <;> omega)
    · obtain rfl : n = hi + 1 := by omega
      replace HB := Lib.hid (below_then HB.out HBR.out)
      clear HBR HY HZ HN HNS
      have c0 := heap_cell HC.out (j := 0) rfl
      have c1 := heap_cell HC.out (j := 1) rfl
      have c2 := heap_cell HC.out (j := 2) rfl
      have g0 := heap_cell HD.out (j := 0) rfl
      have g1 := heap_cell HD.out (j := 1) rfl
      go_wp2_with fail
      refine (restV hrb hrl hrh hre _).mono ?_
      rintro e r1 ⟨rfl, hb1⟩
      replace HC := Lib.hid (heap_lift HC.out hb1)
      replace HD := Lib.hid (heap_lift HD.out hb1)
      replace HX := Lib.hid (heap_lift HX.out hb1)
      replace HB := Lib.hid (below_then HB.out hb1)
      clear hb1 c0 c1 c2 g0 g1
      go_upto_region 22 with fail
      have hb2 : Below r1.heap.size r1 (r1.alloc (.cells #[.int .i64 0, .int .i64 0, .int .i64 0] 25)) := (Below.refl _ _).alloc (Nat.le_refl _) _
      replace HC := Lib.hid (heap_lift HC.out hb2)
      replace HD := Lib.hid (heap_lift HD.out hb2)
      replace HX := Lib.hid (heap_lift HX.out hb2)
      replace HB := Lib.hid (below_then HB.out hb2)
      have hx := heap_top r1 (.cells #[.int .i64 0, .int .i64 0, .int .i64 0] 25) rfl
      obtain ⟨Br, hBr⟩ : ∃ B, r1.heap.size = B := ⟨_, rfl⟩
      obtain ⟨r2, hr2⟩ : ∃ v, r1.alloc (.cells #[.int .i64 0, .int .i64 0, .int .i64 0] 25) = v := ⟨_, rfl⟩
      rw [hBr] at hx
      rw [hr2] at HC HD HX HB hx
      rw [hr2, hBr]
      have HR := Lib.hid hx
      clear hb2 hx hBr hr2
      have c0 := heap_cell HC.out (j := 0) rfl
      have c1 := heap_cell HC.out (j := 1) rfl
      have c2 := heap_cell HC.out (j := 2) rfl
      have g0 := heap_cell HD.out (j := 0) rfl
      have g1 := heap_cell HD.out (j := 1) rfl
      have k0 := heap_cell HX.out (j := 0) rfl
      have k1 := heap_cell HX.out (j := 1) rfl
      have m0 := heap_cell HR.out (j := 0) rfl
      have m1 := heap_cell HR.out (j := 1) rfl
      have m2 := heap_cell HR.out (j := 2) rfl
      go_wp2_with fail
      go_ret
      exact ⟨rfl, HB.out⟩

/-- The walk of SampleCan. -/
theorem can_walk (b lo hi o f : Int) (w : World) :
    Calls Try.prog 4 #[cargoV b lo hi, .agg #[.int .i64 o, .int .i64 f]] w fun e w' => e = .returned (.bool true) ∧ Below w.heap.size w w' := by
  cases hok : Pure.okCargo b lo hi with
  | false => exact can_bad b lo hi o f (Lib.hid hok) w
  | true =>
    cases hdk : Pure.okDraw b o f with
    | false => exact can_off b lo hi o f (Lib.hid hok) (Lib.hid hdk) w
    | true =>
      have hk := hok
      unfold Pure.okCargo at hk
      rw [decide_eq_true_eq] at hk
      obtain ⟨b1, b2, l0, l1, hb⟩ := hk
      have hk := hdk
      unfold Pure.okDraw at hk
      rw [decide_eq_true_eq] at hk
      obtain ⟨o0, o1, f0, f1⟩ := hk
      obtain ⟨bn, rfl⟩ : ∃ bn : Nat, b = bn := ⟨b.toNat, by omega⟩
      obtain ⟨sl, sh, ec, hsl, hsh, hec, hv⟩ := can_vals hok o0 o1 f0 f1
      have s0 : 0 < Pure.sets bn o := Pure.sets_pos o0 o1
      have hv' : (ec = 0 ∧ sl = max lo f ∧ sh = min hi (bn - o + f) ∧ sl ≤ sh) ∨ (ec = 8 ∧ sl = 0 ∧ sh = 0 ∧ min hi (bn - o + f) < max lo f) := by
        rcases hv with ⟨h1, h2, h3, h4, _⟩ | h
        · exact .inl ⟨h1, h2, h3, h4⟩
        · exact .inr h
      have hI : ∀ n : Int, lo ≤ n → n ≤ hi → isV sl sh ec n = decide (0 < Pure.ways bn n o f) := fun n n0 n1 => by
        rw [is_span n0 n1 hv', decide_eq_decide, Pure.ways_pos f0 f1]
        omega
      by_cases hob : o < bn
      · obtain ⟨s1l, s1h, e1, h1l, h1h, h1e, hv1⟩ := can_vals (o := o + 1) (f := f) hok (by omega) (by omega) f0 (by omega)
        obtain ⟨s2l, s2h, e2, h2l, h2h, h2e, hv2⟩ := can_vals (o := o + 1) (f := f + 1) hok (by omega) (by omega) (by omega) (by omega)
        have hv1' : (e1 = 0 ∧ s1l = max lo f ∧ s1h = min hi (bn - (o + 1) + f) ∧ s1l ≤ s1h) ∨ (e1 = 8 ∧ s1l = 0 ∧ s1h = 0 ∧ min hi (bn - (o + 1) + f) < max lo f) := by
          rcases hv1 with ⟨h1, h2, h3, h4, _⟩ | h
          · exact .inl ⟨h1, h2, h3, h4⟩
          · exact .inr h
        have hv2' : (e2 = 0 ∧ s2l = max lo (f + 1) ∧ s2h = min hi (bn - (o + 1) + (f + 1)) ∧ s2l ≤ s2h) ∨ (e2 = 8 ∧ s2l = 0 ∧ s2h = 0 ∧ min hi (bn - (o + 1) + (f + 1)) < max lo (f + 1)) := by
          rcases hv2 with ⟨h1, h2, h3, h4, _⟩ | h
          · exact .inl ⟨h1, h2, h3, h4⟩
          · exact .inr h
        have hJ : ∀ n : Int, lo ≤ n → n ≤ hi → isV sl sh ec n = (isV s1l s1h e1 n || isV s2l s2h e2 n) := fun n n0 n1 => by
          rw [is_span n0 n1 hv', is_span n0 n1 hv1', is_span n0 n1 hv2', Bool.eq_iff_iff]
          simp only [Bool.or_eq_true, decide_eq_true_eq]
          omega
        rcases hv with ⟨rfl, h2, h3, h4, h5, h6⟩ | ⟨rfl, rfl, rfl, h4⟩
        · have hR : Pure.restE bn lo hi o f = 0 := by
            unfold Pure.restE
            rw [if_pos hec, if_neg (by omega)]
          exact can_yes_lt bn lo hi o f sl sh s1l s1h e1 s2l s2h e2 _ (Lib.hid hok) (Lib.hid hdk) b1 b2 l0 l1 hb o0 o1 f0 f1 (Lib.hid hsl) (Lib.hid hsh) (Lib.hid hec) (by omega) h4 (by omega) (by omega) hob
            (Lib.hid h1l) (Lib.hid h1h) (Lib.hid h1e) (Lib.hid h2l) (Lib.hid h2h) (Lib.hid h2e) (Lib.hid hJ) (Lib.hid hI) (Lib.hid rfl) s0
            (Lib.hid (by rw [hR, Pure.pick_zero rfl])) (Lib.hid (by rw [hR, Pure.pick_zero rfl, h5])) (Lib.hid (by rw [hR, Pure.pick_zero rfl, h6])) (Lib.hid hR) (Lib.hid (by unfold Pure.okCargo; rw [decide_eq_true_eq]; omega)) w
        · have hR : Pure.restE bn lo hi o f = 8 := by
            unfold Pure.restE
            rw [if_neg (by rw [hec]; decide), hec]
          exact can_no_lt bn lo hi o f s1l s1h e1 s2l s2h e2 _ (Lib.hid hok) (Lib.hid hdk) b1 b2 l0 l1 hb o0 o1 f0 f1 (Lib.hid hsl) (Lib.hid hsh) (Lib.hid hec) hob
            (Lib.hid h1l) (Lib.hid h1h) (Lib.hid h1e) (Lib.hid h2l) (Lib.hid h2h) (Lib.hid h2e) (Lib.hid hJ) (Lib.hid hI) (Lib.hid rfl) s0
            (Lib.hid (by rw [hR, Pure.pick_err (by decide)])) (Lib.hid (by rw [hR, Pure.pick_err (by decide)])) (Lib.hid (by rw [hR, Pure.pick_err (by decide)])) (Lib.hid hR) w
      · have hob' : o = bn := by omega
        rcases hv with ⟨rfl, h2, h3, h4, h5, h6⟩ | ⟨rfl, rfl, rfl, h4⟩
        · have hR : Pure.restE bn lo hi o f = 6 := by
            unfold Pure.restE
            rw [if_pos hec, if_pos hob']
          exact can_yes_eq bn lo hi o f sl sh _ (Lib.hid hok) (Lib.hid hdk) b1 b2 l0 l1 hb o0 o1 f0 f1 (Lib.hid hsl) (Lib.hid hsh) (Lib.hid hec) (by omega) h4 (by omega) (by omega) (Lib.hid hob') (by omega) (Lib.hid (by omega)) (Lib.hid (by omega))
            (Lib.hid hI) (Lib.hid rfl) s0
            (Lib.hid (by rw [hR, Pure.pick_err (by decide)])) (Lib.hid (by rw [hR, Pure.pick_err (by decide)])) (Lib.hid (by rw [hR, Pure.pick_err (by decide)])) (Lib.hid hR) w
        · have hR : Pure.restE bn lo hi o f = 8 := by
            unfold Pure.restE
            rw [if_neg (by rw [hec]; decide), hec]
          exact can_no_eq bn lo hi o f _ (Lib.hid hok) (Lib.hid hdk) b1 b2 l0 l1 hb o0 o1 f0 f1 (Lib.hid hsl) (Lib.hid hsh) (Lib.hid hec) (by omega)
            (Lib.hid hI) (Lib.hid rfl) s0
            (Lib.hid (by rw [hR, Pure.pick_err (by decide)])) (Lib.hid (by rw [hR, Pure.pick_err (by decide)])) (Lib.hid (by rw [hR, Pure.pick_err (by decide)])) (Lib.hid hR) w

end Go.Proofs.Ytiiecehmldipmaa
