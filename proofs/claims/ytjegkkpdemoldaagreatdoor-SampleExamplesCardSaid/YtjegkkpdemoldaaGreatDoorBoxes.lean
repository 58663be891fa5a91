/-
  The contracts of the small functions of the statements: bags, drawn, part, terms, twice.
  The contracts of the eleven calls of the examples.
  Boxes that a statement makes beside its calls, in whatever order.
-/
import Derived.Test.YtjegkkpdemoldaaGreatDoorTwiceTop
import Derived.Test.YtjegkkpdemoldaaGreatDoorAward
import Derived.Test.YtjegkkpdemoldaaGreatDoorOffTop
import Derived.Test.YtjegkkpdemoldaaGreatDoorFindTop
import Derived.Test.YtjegkkpdemoldaaGreatDoorLeast
import Derived.Test.YtjegkkpdemoldaaGreatDoorRAble
import Derived.Deep.DeepCutAuto

namespace Go.Proofs.YtjegkkpdemoldaaGreatDoor
open Go.RowKit Go.Shelf

set_option maxHeartbeats 1000000 in
set_option maxRecDepth 100000 in
theorem bags_any (n : Int) (w : World) : Calls Tryz.prog 6 #[.int .i64 n] w fun e w' => e = .returned (cargoV n 0 n) ∧ Below w.heap.size w w' := by
  go_enter Tryz.func6, Tryz.ntmps6
  go_wp2_with fail
  refine bodyPost_ret (v := cargoV n 0 n) (by simp [results, Tryz.results6, go_sem]) rfl ⟨rfl, ?_⟩
  exact (Below.refl _ _).alloc (Nat.le_refl _) _
set_option maxHeartbeats 1000000 in
set_option maxRecDepth 100000 in
theorem drawn_any (o f : Int) (w : World) : Calls Tryz.prog 9 #[.int .i64 o, .int .i64 f] w fun e w' => e = .returned (.agg #[.int .i64 o, .int .i64 f]) ∧ Below w.heap.size w w' := by
  go_enter Tryz.func9, Tryz.ntmps9
  go_wp2_with fail
  refine bodyPost_ret (v := .agg #[.int .i64 o, .int .i64 f]) (by simp [results, Tryz.results9, go_sem]) rfl ⟨rfl, ?_⟩
  exact (Below.refl _ _).alloc (Nat.le_refl _) _
set_option maxHeartbeats 1000000 in
set_option maxRecDepth 100000 in
theorem newPart_any (o f : Int) (w : World) : Calls Tryz.prog 12 #[.int .i64 o, .int .i64 f] w fun e w' => e = .returned (.agg #[.int .i64 o, .int .i64 f]) ∧ Below w.heap.size w w' := by
  go_enter Tryz.func12, Tryz.ntmps12
  go_wp2_with fail
  refine bodyPost_ret (v := .agg #[.int .i64 o, .int .i64 f]) (by simp [results, Tryz.results12, go_sem]) rfl ⟨rfl, ?_⟩
  exact (Below.refl _ _).alloc (Nat.le_refl _) _
set_option maxHeartbeats 1000000 in
set_option maxRecDepth 100000 in
theorem newTwice_any (w : World) : Calls Tryz.prog 31 #[] w fun e w' => e = .returned (doubleV 2 0 2 2 1) ∧ Below w.heap.size w w' := by
  go_enter Tryz.func31, Tryz.ntmps31
  go_wp2_with fail
  refine bodyPost_ret (v := doubleV 2 0 2 2 1) (by simp [results, Tryz.results31, go_sem]) rfl ⟨rfl, ?_⟩
  exact (Below.refl _ _).alloc (Nat.le_refl _) _

/-- The shares and the pence of the examples' terms. -/
def exF (j : Nat) : Int := match j with
  | 0 => 5
  | 1 => 10
  | _ => 30
def exP (j : Nat) : Int := match j with
  | 0 => 100
  | 1 => 300
  | _ => 1000
/-- What terms answers: a slice of three terms. -/
def ThreeTerms (w : World) (e : Ending) (w' : World) : Prop := ∃ a cap, e = .returned (.slice a 3 cap) ∧ TermsAt w' a 3 exF exP ∧ Below w.heap.size w w'
set_option maxHeartbeats 1000000 in
set_option maxRecDepth 100000 in
theorem terms_any (w : World) : Calls Tryz.prog 17 #[] w (ThreeTerms w) := by
  go_enter Tryz.func17, Tryz.ntmps17
  go_wp2_with fail
  go_ret
  refine ⟨_, _, rfl, ?_, (Below.refl _ _).alloc (Nat.le_refl _) _⟩
  intro j hj
  have : j = 0 ∨ j = 1 ∨ j = 2 := by omega
  rcases this with rfl | rfl | rfl
  · exact ⟨_, _, rfl, cells_top _ _ _ rfl 0, cells_top _ _ _ rfl 1⟩
  · exact ⟨_, _, rfl, cells_top _ _ _ rfl 2, cells_top _ _ _ rfl 3⟩
  · exact ⟨_, _, rfl, cells_top _ _ _ rfl 4, cells_top _ _ _ rfl 5⟩

/-- The eleven answers of the examples. -/
theorem lit_ways : Pure.resI (Pure.err (Pure.okWays 10 3) 2) (Pure.sets 10 3) = .tuple #[.int .i64 120, .int .i64 0] := by kernel_rfl
theorem lit_chance : Pure.res2 (Pure.first3 (Pure.err (Pure.okCargo 10 0 10) 10) (Pure.err (Pure.okDraw 10 3 1) 11) (Pure.err (Pure.okIn 0 10 4) 2)) (partV (Pure.ways 10 4 3 1) (Pure.sets 10 3)) = .tuple #[.agg #[.int .i64 1, .int .i64 2], .int .i64 0] := by kernel_rfl
theorem lit_atMost : Pure.res2 (Pure.first3 (Pure.err (Pure.okCargo 10 0 10) 10) (Pure.err (Pure.okDraw 10 3 1) 11) (Pure.err (Pure.okIn 0 10 4) 2)) (partV (Pure.few 10 4 3 1) (Pure.sets 10 3)) = .tuple #[.agg #[.int .i64 2, .int .i64 3], .int .i64 0] := by kernel_rfl
theorem lit_canE : Pure.canE 10 0 10 3 1 = 0 := by kernel_rfl
theorem lit_canLo : Pure.pick (Pure.canE 10 0 10 3 1) (Pure.fst 10 (Pure.nums (10 : Int).toNat 0 10 3 1)) = 1 := by kernel_rfl
theorem lit_canHi : Pure.pick (Pure.canE 10 0 10 3 1) (Pure.lst (Pure.nums (10 : Int).toNat 0 10 3 1)) = 8 := by kernel_rfl
theorem lit_likely : Pure.likelyL 10 0 10 3 1 = [3] := by kernel_rfl
theorem lit_boundE : Pure.boundE 10 0 10 3 0 1 10 = 0 := by kernel_rfl
theorem lit_boundV : Pure.boundV 10 0 10 3 0 1 10 = 4 := by kernel_rfl
theorem lit_findE : Pure.findE 10 0 10 2 1 2 = 0 := by kernel_rfl
theorem lit_findV : Pure.findV 10 0 10 2 1 2 = 3 := by kernel_rfl
theorem lit_leastE : Pure.leastE 10 0 10 1 5 3 10 1 10 = 0 := by kernel_rfl
theorem lit_least : Pure.least (10 : Int).toNat 1 5 3 10 1 10 = (3, 0) := by kernel_rfl
theorem lit_twice : Pure.twiceV 10 0 10 2 0 2 2 1 4 = .tuple #[.agg #[.int .i64 11, .int .i64 21], .agg #[.int .i64 46, .int .i64 15], .int .i64 0] := by kernel_rfl
theorem lit_off : Pure.resI (Pure.first2 (Pure.err (Pure.okTerms 3 exF exP) 14) (Pure.err (Pure.okDraw 36 10 1) 11)) (Pure.off 3 exF exP 10 1) = .tuple #[.int .i64 300, .int .i64 0] := by kernel_rfl
theorem lit_award : Pure.resI (Pure.err (Pure.okAward 100 120 90) 2) (Pure.award 100 120 90) = .tuple #[.int .i64 100, .int .i64 0] := by kernel_rfl

end Go.Proofs.YtjegkkpdemoldaaGreatDoor

namespace Go.Proofs.YtjegkkpdemoldaaGreatDoor
open Go.RowKit Go.Shelf

theorem waysL (w : World) : Calls Tryz.prog 22 #[.int .i64 10, .int .i64 3] w fun e w' => e = .returned (.tuple #[.int .i64 120, .int .i64 0]) ∧ Below w.heap.size w w' :=
  (waysTop_any 10 3 w).mono fun _ _ h => ⟨h.1.trans (by rw [lit_ways]), h.2⟩
theorem chanceL (w : World) : Calls Tryz.prog 23 #[cargoV 10 0 10, .int .i64 4, .agg #[.int .i64 3, .int .i64 1]] w fun e w' => e = .returned (.tuple #[.agg #[.int .i64 1, .int .i64 2], .int .i64 0]) ∧ Below w.heap.size w w' :=
  (chance_any 10 0 10 4 3 1 w).mono fun _ _ h => ⟨h.1.trans (by rw [lit_chance]), h.2⟩
theorem atMostL (w : World) : Calls Tryz.prog 24 #[cargoV 10 0 10, .int .i64 4, .agg #[.int .i64 3, .int .i64 1]] w fun e w' => e = .returned (.tuple #[.agg #[.int .i64 2, .int .i64 3], .int .i64 0]) ∧ Below w.heap.size w w' :=
  (atMost_any 10 0 10 4 3 1 w).mono fun _ _ h => ⟨h.1.trans (by rw [lit_atMost]), h.2⟩
theorem canL (w : World) : Calls Tryz.prog 25 #[cargoV 10 0 10, .agg #[.int .i64 3, .int .i64 1]] w fun e w' => e = .returned (.tuple #[.agg #[.int .i64 1, .int .i64 8], .int .i64 0]) ∧ Below w.heap.size w w' :=
  (can_top 10 0 10 3 1 w).mono fun _ _ h => ⟨h.1.trans (by rw [lit_canLo, lit_canHi, lit_canE]), h.2⟩
/-- What Likely answers: a slice of the one number 3. -/
def OneThree (w : World) (e : Ending) (w' : World) : Prop := ∃ v, e = .returned (.tuple #[v, .int .i64 0]) ∧ IntsAt w' v [3] ∧ Below w.heap.size w w'
theorem likelyLit (w : World) : Calls Tryz.prog 10 #[cargoV 10 0 10, .agg #[.int .i64 3, .int .i64 1]] w (OneThree w) :=
  (likely_top 10 0 10 3 1 w).mono fun _ _ h => by
    obtain ⟨v, h1, h2, h3⟩ := h
    rw [lit_canE] at h1
    rw [lit_likely] at h2
    exact ⟨v, h1, IntsAt.of_row h2, h3⟩
theorem boundL (w : World) : Calls Tryz.prog 26 #[cargoV 10 0 10, .agg #[.int .i64 3, .int .i64 0], .agg #[.int .i64 1, .int .i64 10]] w fun e w' => e = .returned (.tuple #[.int .i64 4, .int .i64 0]) ∧ Below w.heap.size w w' :=
  (bound_top 10 0 10 3 0 1 10 w).mono fun _ _ h => ⟨h.1.trans (by rw [lit_boundE, lit_boundV]), h.2⟩
theorem findL (w : World) : Calls Tryz.prog 11 #[cargoV 10 0 10, .int .i64 2, .agg #[.int .i64 1, .int .i64 2]] w fun e w' => e = .returned (.tuple #[.int .i64 3, .int .i64 0]) ∧ Below w.heap.size w w' :=
  (find_top 10 0 10 2 1 2 w).mono fun _ _ h => ⟨h.1.trans (by rw [lit_findE, lit_findV]), h.2⟩
theorem leastL (w : World) : Calls Tryz.prog 27 #[cargoV 10 0 10, .int .i64 1, .int .i64 5, .agg #[.int .i64 3, .int .i64 10], .agg #[.int .i64 1, .int .i64 10]] w fun e w' => e = .returned (.tuple #[.agg #[.int .i64 3, .int .i64 0], .int .i64 0]) ∧ Below w.heap.size w w' :=
  (least_top 10 0 10 1 5 3 10 1 10 w).mono fun _ _ h => ⟨h.1.trans (by rw [lit_least, lit_leastE]; rfl), h.2⟩
theorem twiceL (w : World) : Calls Tryz.prog 28 #[cargoV 10 0 10, doubleV 2 0 2 2 1, .int .i64 4] w fun e w' => e = .returned (.tuple #[.agg #[.int .i64 11, .int .i64 21], .agg #[.int .i64 46, .int .i64 15], .int .i64 0]) ∧ Below w.heap.size w w' :=
  (twice_top 10 0 10 2 0 2 2 1 4 w).mono fun _ _ h => ⟨h.1.trans (by rw [lit_twice]), h.2⟩
theorem offL (a : Option Addr) (cap : Nat) (w : World) (h : TermsAt w a 3 exF exP) : Calls Tryz.prog 21 #[.slice a 3 cap, .agg #[.int .i64 10, .int .i64 1]] w fun e w' => e = .returned (.tuple #[.int .i64 300, .int .i64 0]) ∧ Below w.heap.size w w' :=
  (offTop_any a 3 cap exF exP 10 1 (by decide) w h).mono fun _ _ h => ⟨h.1.trans (by rw [lit_off]), h.2⟩
theorem awardL (w : World) : Calls Tryz.prog 18 #[.int .i64 100, .int .i64 120, .int .i64 90] w fun e w' => e = .returned (.tuple #[.int .i64 100, .int .i64 0]) ∧ Below w.heap.size w w' :=
  (award_any 100 120 90 w).mono fun _ _ h => ⟨h.1.trans (by rw [lit_award]), h.2⟩

/-- A box with a value of its own. -/
def BoxAt (w : World) (v : Value) (arr : Array Value) (t : TypeId) (n : Nat) : Prop := ∃ B, v = .pointer (some ⟨B, 0, none⟩) ∧ n ≤ B ∧ w.heap[B]? = some (.cells arr t)
theorem BoxAt.below {w w' : World} {v : Value} {arr : Array Value} {t : TypeId} {n : Nat} (h : BoxAt w v arr t n) (hb : Below w.heap.size w w') : BoxAt w' v arr t n := by
  obtain ⟨B, h1, h2, h3⟩ := h
  exact ⟨B, h1, h2, (hb.block _ (Array.getElem?_eq_some_iff.1 h3).1).trans h3⟩
theorem heap_lift {w w' : World} {B : Nat} {o : Obj} (h : w.heap[B]? = some o) (hb : Below w.heap.size w w') : w'.heap[B]? = some o := (hb.block _ (Array.getElem?_eq_some_iff.1 h).1).trans h

end Go.Proofs.YtjegkkpdemoldaaGreatDoor

namespace Go.Proofs.YtjegkkpdemoldaaGreatDoor
open Go.RowKit Go.Shelf

/-- A box that is there since a world: where it is, and what it holds. -/
def BoxIn (n i : Nat) (o : Obj) (w : World) : Prop := n ≤ i ∧ w.heap[i]? = some o
theorem BoxIn.up {n i : Nat} {o : Obj} {w w' : World} (h : BoxIn n i o w) (k : Below w.heap.size w w') : BoxIn n i o w' := ⟨h.1, heap_lift h.2 k⟩
theorem boxIn_drew {w w' : World} {o : Obj} (k : Below (w.alloc o).drew.heap.size (w.alloc o).drew w') : BoxIn w.heap.size w.heap.size o w' := ⟨Nat.le_refl _, heap_lift (w := (w.alloc o).drew) (heap_top w _ rfl) k⟩
theorem boxIn_new {n : Nat} {w w' : World} {o : Obj} (h : n ≤ w.heap.size) (k : Below (w.alloc o).heap.size (w.alloc o) w') : BoxIn n w.heap.size o w' := ⟨h, heap_lift (heap_top w _ rfl) k⟩
theorem BoxIn.cell {n i : Nat} {arr : Array Value} {t : TypeId} {w : World} (h : BoxIn n i (.cells arr t) w) (j : Nat) {v : Value} (hv : arr[j]? = some v) : w.cell? ⟨i, j, none⟩ = some v := heap_cell h.2 hv
theorem BoxIn.free {n i : Nat} {arr : Array Value} {t : TypeId} {w : World} (h : BoxIn n i (.cells arr t) w) (j : Nat) : w.frozen? ⟨i, j, none⟩ = false := heap_frozen h.2 j
theorem BoxIn.at {n i : Nat} {arr : Array Value} {t : TypeId} {w : World} (h : BoxIn n i (.cells arr t) w) : BoxAt w (.pointer (some ⟨i, 0, none⟩)) arr t n := ⟨i, rfl, h.1, h.2⟩
theorem box_last {W v : World} (hq : Below W.heap.size W v) (arr : Array Value) (t : TypeId) : BoxAt (v.alloc (.cells arr t)) (.pointer (some ⟨v.heap.size, 0, none⟩)) arr t W.heap.size ∧ Below W.heap.size W (v.alloc (.cells arr t)) :=
  ⟨⟨_, rfl, hq.size, heap_top _ _ rfl⟩, hq.alloc hq.size _⟩
theorem box_two {W v : World} {i : Nat} {a b : Value} {t : TypeId} (hq : Below W.heap.size W v) (hz : BoxIn W.heap.size i (.cells #[a, b] t) v) (c d : Value) :
    BoxAt ((v.setCell ⟨i, 0, none⟩ c).setCell ⟨i, 1, none⟩ d) (.pointer (some ⟨i, 0, none⟩)) #[c, d] t W.heap.size ∧ Below W.heap.size W ((v.setCell ⟨i, 0, none⟩ c).setCell ⟨i, 1, none⟩ d) :=
  ⟨⟨_, rfl, hz.1, heap_set (heap_set hz.2 0 c) 1 d⟩, (hq.setCell (p := ⟨i, 0, none⟩) hz.1 _).setCell (p := ⟨i, 1, none⟩) hz.1 _⟩
theorem BoxAt.mono {w : World} {v : Value} {arr : Array Value} {t : TypeId} {n m : Nat} (h : BoxAt w v arr t n) (hm : m ≤ n) : BoxAt w v arr t m := by
  obtain ⟨B, h1, h2, h3⟩ := h
  exact ⟨B, h1, Nat.le_trans hm h2, h3⟩
/-- Two boxes that were made beside each other. -/
theorem BoxIn.alloc {n i : Nat} {o : Obj} {w : World} (h : BoxIn n i o w) (o' : Obj) : BoxIn n i o (w.alloc o') := ⟨h.1, heap_up h.2 o'⟩
theorem BoxIn.lt {n i : Nat} {o : Obj} {w : World} (h : BoxIn n i o w) : i < w.heap.size := (Array.getElem?_eq_some_iff.1 h.2).1
theorem boxIn_drew1 {w w' : World} {o o' : Obj} (k : Below ((w.alloc o).alloc o').drew.heap.size ((w.alloc o).alloc o').drew w') : BoxIn w.heap.size w.heap.size o w' := ⟨Nat.le_refl _, heap_lift (w := ((w.alloc o).alloc o').drew) (heap_up (heap_top w _ rfl) _) k⟩
theorem boxIn_drew2 {w w' : World} {o o' : Obj} (k : Below ((w.alloc o).alloc o').drew.heap.size ((w.alloc o).alloc o').drew w') : BoxIn (w.heap.size + 1) (w.heap.size + 1) o' w' := ⟨Nat.le_refl _, heap_lift (w := ((w.alloc o).alloc o').drew) (heap_top _ _ (by simp)) k⟩
theorem boxIn_new1 {n : Nat} {w w' : World} {o o' : Obj} (h : n ≤ w.heap.size) (k : Below ((w.alloc o).alloc o').heap.size ((w.alloc o).alloc o') w') : BoxIn n w.heap.size o w' := ⟨h, heap_lift (heap_up (heap_top w _ rfl) _) k⟩
theorem boxIn_new2 {w w' : World} {o o' : Obj} (k : Below ((w.alloc o).alloc o').heap.size ((w.alloc o).alloc o') w') : BoxIn (w.heap.size + 1) (w.heap.size + 1) o' w' := ⟨Nat.le_refl _, heap_lift (heap_top _ _ (by simp)) k⟩
theorem BoxIn.late {n i : Nat} {o : Obj} {u : World} (h : BoxIn n i o u) (arr : Array Value) (t : TypeId) (j : Nat) {v x y : Value} (hv : arr[j]? = some v) : (((u.alloc (.cells arr t)).setCell ⟨i, 0, none⟩ x).setCell ⟨i, 1, none⟩ y).cell? ⟨u.heap.size, j, none⟩ = some v :=
  far2 (Nat.ne_of_lt h.lt) ((cells_top u arr t rfl j).trans hv)
theorem BoxIn.ne {n i j : Nat} {o o' : Obj} {w w' : World} (_ : BoxIn n i o w) (h : BoxIn (i + 1) j o' w') : i ≠ j := by have := h.1; omega
theorem boxIn_next {n i : Nat} {w w' : World} {o o' : Obj} (h : BoxIn n i o w) (k : Below (w.alloc o').heap.size (w.alloc o') w') : BoxIn n i o w' ∧ BoxIn (i + 1) w.heap.size o' w' := ⟨(h.alloc o').up k, boxIn_new h.lt k⟩
theorem heap_two {W : World} {g : Nat} {a b : Value} {t : TypeId} (h : W.heap[g]? = some (.cells #[a, b] t)) (x y : Value) : ((W.setCell ⟨g, 0, none⟩ x).setCell ⟨g, 1, none⟩ y).heap[g]? = some (.cells #[x, y] t) := heap_set (heap_set h 0 x) 1 y
theorem heap_far2 {W : World} {g k : Nat} {o : Obj} (hne : g ≠ k) (h : W.heap[k]? = some o) (x y : Value) : ((W.setCell ⟨g, 0, none⟩ x).setCell ⟨g, 1, none⟩ y).heap[k]? = some o :=
  (Below.heap_setCell _ _ _ _ (Ne.symm hne)).trans ((Below.heap_setCell _ _ _ _ (Ne.symm hne)).trans h)
/-- What two boxes hold in the end. -/
abbrev TwoAt (W X : World) (i j : Nat) (a b c d : Value) (t : TypeId) : Prop := BoxAt X (.pointer (some ⟨i, 0, none⟩)) #[a, b] t W.heap.size ∧ BoxAt X (.pointer (some ⟨j, 0, none⟩)) #[c, d] t W.heap.size ∧ Below W.heap.size W X
theorem twoAt {W X : World} {i j : Nat} {a b c d : Value} {t : TypeId} (hi : W.heap.size ≤ i) (hj : W.heap.size ≤ j) (h1 : X.heap[i]? = some (.cells #[a, b] t)) (h2 : X.heap[j]? = some (.cells #[c, d] t)) (hb : Below W.heap.size W X) : TwoAt W X i j a b c d t := ⟨⟨_, rfl, hi, h1⟩, ⟨_, rfl, hj, h2⟩, hb⟩
theorem below_set2 {W X : World} {i : Nat} (h : Below W.heap.size W X) (hi : W.heap.size ≤ i) (x y : Value) : Below W.heap.size W ((X.setCell ⟨i, 0, none⟩ x).setCell ⟨i, 1, none⟩ y) := (h.setCell (p := ⟨i, 0, none⟩) hi _).setCell (p := ⟨i, 1, none⟩) hi _
theorem two_old {W u : World} {i j : Nat} {a b c d : Value} {t : TypeId} (hq : Below W.heap.size W u) (hz : BoxIn W.heap.size i (.cells #[a, b] t) u) (hy : BoxIn (i + 1) j (.cells #[c, d] t) u) (x y z v : Value) :
    TwoAt W ((((u.setCell ⟨i, 0, none⟩ x).setCell ⟨i, 1, none⟩ y).setCell ⟨j, 0, none⟩ z).setCell ⟨j, 1, none⟩ v) i j x y z v t := by
  have h1 := hz.1
  have h2 := hy.1
  exact twoAt h1 (by omega) (heap_far2 (by omega) (heap_two hz.2 _ _) _ _) (heap_two (heap_far2 (by omega) hy.2 _ _) _ _) (below_set2 (below_set2 hq h1 _ _) (by omega) _ _)
theorem two_old' {W u : World} {i j : Nat} {a b c d : Value} {t : TypeId} (hq : Below W.heap.size W u) (hz : BoxIn W.heap.size i (.cells #[a, b] t) u) (hy : BoxIn (i + 1) j (.cells #[c, d] t) u) (x y z v : Value) :
    TwoAt W ((((u.setCell ⟨j, 0, none⟩ x).setCell ⟨j, 1, none⟩ y).setCell ⟨i, 0, none⟩ z).setCell ⟨i, 1, none⟩ v) j i x y z v t := by
  have h1 := hz.1
  have h2 := hy.1
  exact twoAt (by omega) h1 (heap_far2 (by omega) (heap_two hy.2 _ _) _ _) (heap_two (heap_far2 (by omega) hz.2 _ _) _ _) (below_set2 (below_set2 hq (by omega) _ _) h1 _ _)
theorem two_late {W u : World} {i : Nat} {a b c d : Value} {t : TypeId} (hq : Below W.heap.size W u) (hz : BoxIn W.heap.size i (.cells #[a, b] t) u) (x y z v : Value) :
    TwoAt W (((((u.alloc (.cells #[c, d] t)).setCell ⟨i, 0, none⟩ x).setCell ⟨i, 1, none⟩ y).setCell ⟨u.heap.size, 0, none⟩ z).setCell ⟨u.heap.size, 1, none⟩ v) i u.heap.size x y z v t := by
  have h1 := hz.lt
  exact twoAt hz.1 hq.size (heap_far2 (by omega) (heap_two (heap_up hz.2 _) _ _) _ _) (heap_two (heap_far2 (by omega) (heap_top _ _ rfl) _ _) _ _) (below_set2 (below_set2 (hq.alloc hq.size _) hz.1 _ _) hq.size _ _)
theorem two_late' {W u : World} {i : Nat} {a b : Value} {t : TypeId} (hq : Below W.heap.size W u) (hz : BoxIn W.heap.size i (.cells #[a, b] t) u) (x y z v : Value) :
    TwoAt W (((u.alloc (.cells #[x, y] t)).setCell ⟨i, 0, none⟩ z).setCell ⟨i, 1, none⟩ v) u.heap.size i x y z v t := by
  have h1 := hz.lt
  exact twoAt hq.size hz.1 (heap_far2 (by omega) (heap_top _ _ rfl) _ _) (heap_two (heap_up hz.2 _) _ _) (below_set2 (hq.alloc hq.size _) hz.1 _ _)
theorem two_last {W u : World} (hq : Below W.heap.size W u) (x y z v : Value) (t : TypeId) : TwoAt W ((u.alloc (.cells #[x, y] t)).alloc (.cells #[z, v] t)) u.heap.size (u.heap.size + 1) x y z v t := by
  have h := hq.size
  exact twoAt h (by omega) (heap_up (heap_top _ _ rfl) _) (heap_top _ _ (by simp)) ((hq.alloc h _).alloc (by simp; omega) _)
theorem two_last' {W u : World} (hq : Below W.heap.size W u) (x y z v : Value) (t : TypeId) : TwoAt W ((u.alloc (.cells #[z, v] t)).alloc (.cells #[x, y] t)) (u.heap.size + 1) u.heap.size x y z v t := by
  have h := hq.size
  exact twoAt (by omega) h (heap_top _ _ (by simp)) (heap_up (heap_top _ _ rfl) _) ((hq.alloc h _).alloc (by simp; omega) _)
theorem ints_one (w : World) (x : Int) (t : TypeId) : IntsAt (w.alloc (.cells #[.int .i64 x] t)) (.slice (some ⟨w.heap.size, 0, none⟩) 1 1) [x] := ⟨_, 1, rfl, fun j y h => by
  match j, h with
  | 0, h =>
    simp at h
    subst h
    exact ⟨_, rfl, cell_top w _ t rfl⟩⟩
theorem below_then {W u v : World} (h : Below W.heap.size W u) (k : Below u.heap.size u v) : Below W.heap.size W v := h.trans (k.mono h.size)

end Go.Proofs.YtjegkkpdemoldaaGreatDoor
