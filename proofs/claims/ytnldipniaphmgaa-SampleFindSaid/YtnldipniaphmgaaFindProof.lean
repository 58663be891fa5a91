/-
  SampleFind returns true for every input: cargoes that are not valid pass, the other numbers are taken into their spans by the statement itself. There is no condition.
  SampleFind: the walk of the law.
-/
import Derived.Test.YtnldipniaphmgaaAlive
import Derived.Test.YtnldipniaphmgaaOver
import Derived.Test.YtnldipniaphmgaaVander
import Derived.Test.YtnldipniaphmgaaOpen

namespace Go.Proofs.Ytnldipniaphmgaa
open Go.RowKit Go.Shelf

namespace Pure
theorem find_none_val {b : Nat} {d p q : Int} (hb : b ≤ 36) (hd0 : 0 ≤ d) (hd : d ≤ b) (hpq : p ≤ q) (h : find b d p q = none) : d = 0 ∧ 0 < p := by
  unfold find at h
  rw [List.find?_eq_none] at h
  have h1 := h (b : Int) (by unfold ints; rw [List.mem_map]; exact ⟨b, by simp, rfl⟩)
  unfold okFind at h1
  rw [few_zero (by omega) (by omega) hd0 hd (by omega) (Int.le_refl _), sets_edge (n := (b : Int)) (k := b) (by omega) (Int.le_refl _) (.inr rfl)] at h1
  simp only [decide_eq_true_eq, Int.mul_one] at h1
  by_cases hz : d = 0
  · subst hz
    rw [Int.sub_zero, sets_edge (n := (b : Int)) (k := b) (by omega) (Int.le_refl _) (.inr rfl)] at h1
    exact ⟨rfl, by omega⟩
  · rw [sets_none (n := (b : Int) - d) (k := b) (.inr (by omega))] at h1
    omega
theorem find_some_val {b : Nat} {d p q n : Int} (h : find b d p q = Option.some n) : ∃ m : Nat, n = (m : Int) ∧ m ≤ b ∧ okFind (b : Int) d p q (m : Int) = true ∧ ∀ k : Nat, k < m → okFind (b : Int) d p q (k : Int) = false := by
  unfold find at h
  rw [List.find?_eq_some_iff_getElem] at h
  obtain ⟨h1, i, hi, h2, h3⟩ := h
  have hl : (ints (b + 1)).length = b + 1 := ints_length _
  have hg : ∀ (j : Nat) (hj : j < (ints (b + 1)).length), (ints (b + 1))[j] = (j : Int) := fun j hj => by simp [ints]
  rw [hg] at h2
  subst h2
  refine ⟨i, rfl, by omega, h1, fun k hk => ?_⟩
  have := h3 k hk
  rw [hg] at this
  simpa using this
theorem first3_none : first3 0 0 0 = 0 := rfl
end Pure

/-- The chance that of so many bags at most so many are dirty, in lowest terms, of a valid cargo. -/
theorem atMostV {b lo hi d o f pn pd : Int} (hc : Pure.okCargo b lo hi = true) (d0 : lo ≤ d) (d1 : d ≤ hi) (o0 : 0 ≤ o) (o1 : o ≤ b) (f0 : 0 ≤ f) (f1 : f ≤ o) (h : Hid (partV (Pure.few b d o f) (Pure.sets b o) = .agg #[.int .i64 pn, .int .i64 pd])) (w : World) :
    Calls Try.prog 31 #[cargoV b lo hi, .int .i64 d, .agg #[.int .i64 o, .int .i64 f]] w fun e w' => e = .returned (.tuple #[.agg #[.int .i64 pn, .int .i64 pd], .int .i64 0]) ∧ Below w.heap.size w w' :=
  (atMost_any b lo hi d o f w).mono fun _ _ g => ⟨g.1.trans (by
    have h2 : Pure.okDraw b o f = true := by unfold Pure.okDraw; rw [decide_eq_true_eq]; omega
    have h3 : Pure.okIn lo hi d = true := by unfold Pure.okIn; rw [decide_eq_true_eq]; omega
    rw [Pure.res2_zero (by rw [hc, h2, h3]; rfl), h.out]), g.2⟩
theorem findV_ok {b lo hi d p q : Int} (hc : Pure.okCargo b lo hi = true) (d0 : lo ≤ d) (d1 : d ≤ hi) (p0 : 0 ≤ p) (p1 : p ≤ q) (q0 : 1 ≤ q) (q1 : q ≤ 1000) : Pure.first3 (Pure.err (Pure.okCargo b lo hi) 10) (Pure.err (Pure.okIn lo hi d) 2) (Pure.err (Pure.okParts 1 (fun _ => p) (fun _ => q)) 12) = 0 := by
  have h3 : Pure.okIn lo hi d = true := by unfold Pure.okIn; rw [decide_eq_true_eq]; omega
  have h4 : Pure.okParts 1 (fun _ => p) (fun _ => q) = true := Pure.okParts_true (fun _ _ => ⟨q0, q1, p0, p1⟩)
  rw [hc, h3, h4]
  rfl
theorem findNone {b lo hi d p q : Int} (hc : Pure.okCargo b lo hi = true) (d0 : lo ≤ d) (d1 : d ≤ hi) (p0 : 0 ≤ p) (p1 : p ≤ q) (q0 : 1 ≤ q) (q1 : q ≤ 1000) (h : Hid (Pure.find b.toNat d p q = none)) (w : World) :
    Calls Try.prog 46 #[cargoV b lo hi, .int .i64 d, .agg #[.int .i64 p, .int .i64 q]] w fun e w' => e = .returned (.tuple #[.int .i64 0, .int .i64 6]) ∧ Below w.heap.size w w' :=
  (find_top b lo hi d p q w).mono fun _ _ g => ⟨g.1.trans (by
    unfold Pure.findV Pure.findE
    simp only [findV_ok hc d0 d1 p0 p1 q0 q1, if_true, h.out]
    rfl), g.2⟩
theorem findSome {b lo hi d p q : Int} {n : Nat} (hc : Pure.okCargo b lo hi = true) (d0 : lo ≤ d) (d1 : d ≤ hi) (p0 : 0 ≤ p) (p1 : p ≤ q) (q0 : 1 ≤ q) (q1 : q ≤ 1000) (h : Hid (Pure.find b.toNat d p q = Option.some (n : Int))) (w : World) :
    Calls Try.prog 46 #[cargoV b lo hi, .int .i64 d, .agg #[.int .i64 p, .int .i64 q]] w fun e w' => e = .returned (.tuple #[.int .i64 n, .int .i64 0]) ∧ Below w.heap.size w w' :=
  (find_top b lo hi d p q w).mono fun _ _ g => ⟨g.1.trans (by
    unfold Pure.findV Pure.findE
    simp only [findV_ok hc d0 d1 p0 p1 q0 q1, if_true, h.out]
    rfl), g.2⟩

set_option maxHeartbeats 4000000 in
set_option maxRecDepth 100000 in
/-- A cargo that is not valid. -/
theorem find_bad (b lo hi x num den : Int) (hc : Hid (Pure.okCargo b lo hi = false)) (w : World) :
    Calls Try.prog 9 #[cargoV b lo hi, .int .u8 x, .int .u16 num, .int .u16 den] w fun e w' => e = .returned (.bool true) ∧ Below w.heap.size w w' := by
  go_enter Try.func9, Try.ntmps9
  go_wp2_with fail
  refine (alive_any _).mono ?_
  rintro e w1 ⟨rfl, hb1⟩
  have hcc := heap_lift (heap_top w (.cells #[.int .i64 b, .int .i64 lo, .int .i64 hi] 25) rfl) hb1
  have c0 := heap_cell hcc (j := 0) rfl
  have c1 := heap_cell hcc (j := 1) rfl
  have c2 := heap_cell hcc (j := 2) rfl
  have HB := Lib.hid (below_then ((Below.refl _ _).alloc (Nat.le_refl _) _) hb1)
  clear hcc hb1
  go_wp2_with fail
  refine (rCargo_any b lo hi _).mono ?_
  rw [hc.out]
  rintro e w2 ⟨rfl, rfl⟩
  go_wp2_with fail
  go_ret
  exact ⟨rfl, HB.out.alloc HB.out.size _⟩

set_option maxHeartbeats 4000000 in
set_option maxRecDepth 100000 in
theorem find_no (b lo hi x num den d p q : Int) (hc : Hid (Pure.okCargo b lo hi = true)) (l0 : 0 ≤ lo) (l1 : lo ≤ hi) (h36 : hi ≤ 36) (x0 : 0 ≤ x) (x1 : x ≤ 255) (num0 : 0 ≤ num) (num1 : num ≤ 65535) (den0 : 0 ≤ den) (den1 : den ≤ 65535)
    (hd : Hid (lo + x % (hi - lo + 1) = d)) (hq : Hid (1 + den % 1000 = q)) (hp : Hid (num % (q + 1) = p)) (d0 : lo ≤ d) (d1 : d ≤ hi) (p0 : 0 ≤ p) (p1 : p ≤ q) (q0 : 1 ≤ q) (q1 : q ≤ 1000) (h : Hid (Pure.find b.toNat d p q = none)) (hdz : Hid (d = 0)) (hpz : 0 < p) (w : World) :
    Calls Try.prog 9 #[cargoV b lo hi, .int .u8 x, .int .u16 num, .int .u16 den] w fun e w' => e = .returned (.bool true) ∧ Below w.heap.size w w' := by
  go_enter Try.func9, Try.ntmps9
  go_wp2_with fail
  refine (alive_any _).mono ?_
  rintro e w1 ⟨rfl, hb1⟩
  have hcc := heap_lift (heap_top w (.cells #[.int .i64 b, .int .i64 lo, .int .i64 hi] 25) rfl) hb1
  have HC := Lib.hid hcc
  have c0 := heap_cell hcc (j := 0) rfl
  have c1 := heap_cell hcc (j := 1) rfl
  have c2 := heap_cell hcc (j := 2) rfl
  have HB := Lib.hid (below_then ((Below.refl _ _).alloc (Nat.le_refl _) _) hb1)
  obtain ⟨Bc, hBc⟩ : ∃ Bc, w.heap.size = Bc := ⟨_, rfl⟩
  have HN : Hid (Bc = w.heap.size) := Lib.hid hBc.symm
  rw [hBc] at HC c0 c1 c2
  clear hcc hb1
  go_wp2_with fail
  clear hBc
  refine (rCargo_any b lo hi _).mono ?_
  rw [hc.out]
  rintro e w2 ⟨rfl, rfl⟩
  obtain ⟨w2, hw2⟩ : ∃ w2, w1.alloc (.cells #[.int .i64 b, .int .i64 lo, .int .i64 hi] 25) = w2 := ⟨_, rfl⟩
  replace HC := Lib.hid (heap_up HC.out (.cells #[.int .i64 b, .int .i64 lo, .int .i64 hi] 25))
  replace HB := Lib.hid (HB.out.alloc HB.out.size (.cells #[.int .i64 b, .int .i64 lo, .int .i64 hi] 25))
  rw [hw2] at HC HB
  rw [hw2]
  clear c0 c1 c2 hw2
  have c0 := heap_cell HC.out (j := 0) rfl
  have c1 := heap_cell HC.out (j := 1) rfl
  have c2 := heap_cell HC.out (j := 2) rfl
  go_wp2_with fail
  refine (some_any b lo hi x l0 l1 h36 x0 x1 hd _).mono ?_
  rintro e w3 ⟨rfl, hb3⟩
  replace HC := Lib.hid (heap_lift HC.out hb3)
  replace HB := Lib.hid (HB.out.trans (hb3.mono HB.out.size))
  clear c0 c1 c2 hb3
  go_wp2_with fail
  rw [hq.out]
  refine (newPart_any _ _ _).mono ?_
  rintro e w4 ⟨rfl, hb4⟩
  have hlt : Bc < w4.heap.size := (Array.getElem?_eq_some_iff.1 (heap_lift HC.out hb4)).1
  replace HC := Lib.hid (heap_up (heap_lift HC.out hb4) (.cells #[.int .i64 0, .int .i64 q] 31))
  have hps : w.heap.size ≤ w4.heap.size := Nat.le_trans HB.out.size hb4.size
  have hb5 := (HB.out.trans (hb4.mono HB.out.size)).alloc (HB.out.trans (hb4.mono HB.out.size)).size (.cells #[.int .i64 0, .int .i64 q] 31)
  replace HB := Lib.hid hb5
  have hpp := heap_top w4 (.cells #[.int .i64 0, .int .i64 q] 31) rfl
  obtain ⟨Bp, hBp⟩ : ∃ Bp, w4.heap.size = Bp := ⟨_, rfl⟩
  obtain ⟨w5, hw5⟩ : ∃ w5, w4.alloc (.cells #[.int .i64 0, .int .i64 q] 31) = w5 := ⟨_, rfl⟩
  rw [hBp] at hpp hps hlt
  rw [hw5] at HC HB hpp
  have e0 := heap_cell hpp (j := 0) rfl
  have e1 := heap_cell hpp (j := 1) rfl
  have f0 := heap_frozen hpp 0
  have HP := Lib.hid hpp
  clear hpp
  have HPS := Lib.hid hps
  have HLT := Lib.hid hlt
  clear hb4 hb5 hps hlt
  have q3 : (0 : Int) < q + 1 := by omega
  go_upto_region 7 with fail
  clear hBp hw5
  rw [hp.out]
  replace HC := Lib.hid ((Below.heap_setCell w5 ⟨Bp, 0, none⟩ (.int .i64 p) Bc (by have := HLT.out; simp; omega)).trans HC.out)
  replace HB := Lib.hid (HB.out.setCell (p := ⟨Bp, 0, none⟩) HPS.out (.int .i64 p))
  replace HP := Lib.hid (heap_set HP.out 0 (.int .i64 p))
  obtain ⟨w6, hw6⟩ : ∃ w6, w5.setCell ⟨Bp, 0, none⟩ (.int .i64 p) = w6 := ⟨_, rfl⟩
  rw [hw6] at HC HB HP
  rw [hw6]
  clear hw6 e0 e1 f0 q3
  have c0 := heap_cell HC.out (j := 0) rfl
  have c1 := heap_cell HC.out (j := 1) rfl
  have c2 := heap_cell HC.out (j := 2) rfl
  have e0 := heap_cell HP.out (j := 0) rfl
  have e1 := heap_cell HP.out (j := 1) rfl
  go_wp2_with fail
  refine (findNone hc.out d0 d1 p0 p1 q0 q1 h _).mono ?_
  rintro e w7 ⟨rfl, hb7⟩
  have e0 := heap_cell (heap_lift HP.out hb7) (j := 0) rfl
  replace HB := Lib.hid (HB.out.trans (hb7.mono HB.out.size))
  clear hb7 c0 c1 c2
  have hz := hdz.out
  clear hdz
  subst hz
  go_wp2_with fail
  go_ret
  exact ⟨rfl, HB.out⟩

set_option maxHeartbeats 8000000 in
set_option maxRecDepth 100000 in
theorem find_yes (b lo hi x num den d p q : Int) (n : Nat) (hc : Hid (Pure.okCargo b lo hi = true)) (h36b : b ≤ 36) (l0 : 0 ≤ lo) (l1 : lo ≤ hi) (h36 : hi ≤ 36) (hbb : hi ≤ b) (x0 : 0 ≤ x) (x1 : x ≤ 255) (num0 : 0 ≤ num) (num1 : num ≤ 65535) (den0 : 0 ≤ den) (den1 : den ≤ 65535)
    (hd : Hid (lo + x % (hi - lo + 1) = d)) (hq : Hid (1 + den % 1000 = q)) (hp : Hid (num % (q + 1) = p)) (d0 : lo ≤ d) (d1 : d ≤ hi) (p0 : 0 ≤ p) (p1 : p ≤ q) (q0 : 1 ≤ q) (q1 : q ≤ 1000) (h : Hid (Pure.find b.toNat d p q = Option.some (n : Int))) (hnb : (n : Int) ≤ b)
    (hf0 : Hid (Pure.okFind b d p q (n : Int) = true)) (hf1 : ∀ k : Nat, k < n → Pure.okFind b d p q (k : Int) = false) (w : World) :
    Calls Try.prog 9 #[cargoV b lo hi, .int .u8 x, .int .u16 num, .int .u16 den] w fun e w' => e = .returned (.bool true) ∧ Below w.heap.size w w' := by
  go_enter Try.func9, Try.ntmps9
  go_wp2_with fail
  refine (alive_any _).mono ?_
  rintro e w1 ⟨rfl, hb1⟩
  have hcc := heap_lift (heap_top w (.cells #[.int .i64 b, .int .i64 lo, .int .i64 hi] 25) rfl) hb1
  have HC := Lib.hid hcc
  have c0 := heap_cell hcc (j := 0) rfl
  have c1 := heap_cell hcc (j := 1) rfl
  have c2 := heap_cell hcc (j := 2) rfl
  have HB := Lib.hid (below_then ((Below.refl _ _).alloc (Nat.le_refl _) _) hb1)
  obtain ⟨Bc, hBc⟩ : ∃ Bc, w.heap.size = Bc := ⟨_, rfl⟩
  have HN : Hid (Bc = w.heap.size) := Lib.hid hBc.symm
  rw [hBc] at HC c0 c1 c2
  clear hcc hb1
  go_wp2_with fail
  clear hBc
  refine (rCargo_any b lo hi _).mono ?_
  rw [hc.out]
  rintro e w2 ⟨rfl, rfl⟩
  obtain ⟨w2, hw2⟩ : ∃ w2, w1.alloc (.cells #[.int .i64 b, .int .i64 lo, .int .i64 hi] 25) = w2 := ⟨_, rfl⟩
  replace HC := Lib.hid (heap_up HC.out (.cells #[.int .i64 b, .int .i64 lo, .int .i64 hi] 25))
  replace HB := Lib.hid (HB.out.alloc HB.out.size (.cells #[.int .i64 b, .int .i64 lo, .int .i64 hi] 25))
  rw [hw2] at HC HB
  rw [hw2]
  clear c0 c1 c2 hw2
  have c0 := heap_cell HC.out (j := 0) rfl
  have c1 := heap_cell HC.out (j := 1) rfl
  have c2 := heap_cell HC.out (j := 2) rfl
  go_wp2_with fail
  refine (some_any b lo hi x l0 l1 h36 x0 x1 hd _).mono ?_
  rintro e w3 ⟨rfl, hb3⟩
  replace HC := Lib.hid (heap_lift HC.out hb3)
  replace HB := Lib.hid (HB.out.trans (hb3.mono HB.out.size))
  clear c0 c1 c2 hb3
  go_wp2_with fail
  rw [hq.out]
  refine (newPart_any _ _ _).mono ?_
  rintro e w4 ⟨rfl, hb4⟩
  have hlt : Bc < w4.heap.size := (Array.getElem?_eq_some_iff.1 (heap_lift HC.out hb4)).1
  replace HC := Lib.hid (heap_up (heap_lift HC.out hb4) (.cells #[.int .i64 0, .int .i64 q] 31))
  have hps : w.heap.size ≤ w4.heap.size := Nat.le_trans HB.out.size hb4.size
  have hb5 := (HB.out.trans (hb4.mono HB.out.size)).alloc (HB.out.trans (hb4.mono HB.out.size)).size (.cells #[.int .i64 0, .int .i64 q] 31)
  replace HB := Lib.hid hb5
  have hpp := heap_top w4 (.cells #[.int .i64 0, .int .i64 q] 31) rfl
  obtain ⟨Bp, hBp⟩ : ∃ Bp, w4.heap.size = Bp := ⟨_, rfl⟩
  obtain ⟨w5, hw5⟩ : ∃ w5, w4.alloc (.cells #[.int .i64 0, .int .i64 q] 31) = w5 := ⟨_, rfl⟩
  rw [hBp] at hpp hps hlt
  rw [hw5] at HC HB hpp
  have e0 := heap_cell hpp (j := 0) rfl
  have e1 := heap_cell hpp (j := 1) rfl
  have f0 := heap_frozen hpp 0
  have HP := Lib.hid hpp
  clear hpp
  have HPS := Lib.hid hps
  have HLT := Lib.hid hlt
  clear hb4 hb5 hps hlt
  have q3 : (0 : Int) < q + 1 := by omega
  go_upto_region 7 with fail
  clear hBp hw5
  rw [hp.out]
  replace HC := Lib.hid ((Below.heap_setCell w5 ⟨Bp, 0, none⟩ (.int .i64 p) Bc (by have := HLT.out; simp; omega)).trans HC.out)
  replace HB := Lib.hid (HB.out.setCell (p := ⟨Bp, 0, none⟩) HPS.out (.int .i64 p))
  replace HP := Lib.hid (heap_set HP.out 0 (.int .i64 p))
  obtain ⟨w6, hw6⟩ : ∃ w6, w5.setCell ⟨Bp, 0, none⟩ (.int .i64 p) = w6 := ⟨_, rfl⟩
  rw [hw6] at HC HB HP
  rw [hw6]
  clear hw6 e0 e1 f0 q3
  have c0 := heap_cell HC.out (j := 0) rfl
  have c1 := heap_cell HC.out (j := 1) rfl
  have c2 := heap_cell HC.out (j := 2) rfl
  have e0 := heap_cell HP.out (j := 0) rfl
  have e1 := heap_cell HP.out (j := 1) rfl
  go_wp2_with fail
  refine (findSome (n := n) hc.out d0 d1 p0 p1 q0 q1 h _).mono ?_
  rintro e w7 ⟨rfl, hb7⟩
  replace HC := Lib.hid (heap_lift HC.out hb7)
  replace HP := Lib.hid (heap_lift HP.out hb7)
  replace HB := Lib.hid (HB.out.trans (hb7.mono HB.out.size))
  clear hb7 c0 c1 c2 e0 e1
  have c0 := heap_cell HC.out (j := 0) rfl
  go_wp2_with fail
  clear c0
  go_loopw [81] (fun i wr => ∃ k : Nat, k ≤ n + 1 ∧ i = .int .i64 k ∧ Below w7.heap.size w7 wr) (fun i _ => n + 1 - (intOf i).toNat)
  case atStart => exact ⟨0, by omega, rfl, Below.refl _ _⟩
  case round =>
    obtain ⟨k, hk, rfl, hbr⟩ := hrel
    by_cases hk1 : k < n + 1
    · have hkb : (k : Int) ≤ b := by omega
      obtain ⟨S, hS⟩ : ∃ S, Pure.sets b k = S := ⟨_, rfl⟩
      obtain ⟨M, hM⟩ : ∃ M, Pure.few b d k 0 = M := ⟨_, rfl⟩
      have s0 : 0 < S := by rw [← hS]; exact Pure.sets_pos (by omega) hkb
      have s1 : S ≤ 68719476736 := by rw [← hS]; exact Pure.sets_le h36b
      have m0 : 0 ≤ M := by rw [← hM]; exact Pure.few_nonneg
      have m1 : M ≤ S := by rw [← hM, ← hS]; exact Pure.few_le_all (by omega) (by omega) (by omega) (Int.le_refl _) (by omega)
      have HV : Hid (partV (Pure.few b d k 0) (Pure.sets b k) = .agg #[.int .i64 (M / Pure.gcd M S), .int .i64 (S / Pure.gcd M S)]) := Lib.hid (by rw [hM, hS])
      have HV2 : Hid (partV M S = .agg #[.int .i64 (M / Pure.gcd M S), .int .i64 (S / Pure.gcd M S)]) := Lib.hid rfl
      obtain ⟨pn, hpn⟩ : ∃ pn, M / Pure.gcd M S = pn := ⟨_, rfl⟩
      obtain ⟨pd, hpd⟩ : ∃ pd, S / Pure.gcd M S = pd := ⟨_, rfl⟩
      rw [hpn, hpd] at HV HV2
      have HOF : Hid (Pure.okFind b d p q k = decide (p * S ≤ (S - M) * q)) := Lib.hid (by unfold Pure.okFind; rw [hM, hS])
      have HS := Lib.hid hS
      have HF1 := Lib.hid (hf1 k)
      have HBR := Lib.hid hbr
      replace HC := Lib.hid (heap_lift HC.out hbr)
      replace HP := Lib.hid (heap_lift HP.out hbr)
      have u0 : 0 ≤ (S - M) * q := Int.mul_nonneg (by omega) (by omega)
      have u1 : (S - M) * q ≤ 68719476736000 := Int.le_trans (Int.mul_le_mul (show S - M ≤ 68719476736 by omega) q1 (by omega) (by decide)) (by decide)
      have v0 : 0 ≤ S * p := Int.mul_nonneg (by omega) (by omega)
      have v1 : S * p ≤ 68719476736000 := Int.le_trans (Int.mul_le_mul s1 (show p ≤ 1000 by omega) (by omega) (by decide)) (by decide)
      clear hS hM hpn hpd hbr
      go_wp2_with fail
      have HK : Hid (∀ v : World, Below wr.heap.size wr v → (v.cell? ⟨Bc, 0, none⟩ = some (.int .i64 b) ∧ v.cell? ⟨Bc, 1, none⟩ = some (.int .i64 lo) ∧ v.cell? ⟨Bc, 2, none⟩ = some (.int .i64 hi) ∧ Below wr.heap.size wr v)) :=
        Lib.hid (fun v k => ⟨below_cell k (heap_cell HC.out (j := 0) rfl), below_cell k (heap_cell HC.out (j := 1) rfl), below_cell k (heap_cell HC.out (j := 2) rfl), k⟩)
      go_cut [15, 16] from 82 to 125 (fun s15 s16 wx => BoxAt wx s15 #[.int .i64 pn, .int .i64 pd] 31 wr.heap.size ∧ s16 = .int .i64 0 ∧ Below wr.heap.size wr wx)
      case first =>
        as_aux_lemma =>
          go_region_held3 (fun v => v.cell? ⟨Bc, 0, none⟩ = some (.int .i64 b) ∧ v.cell? ⟨Bc, 1, none⟩ = some (.int .i64 lo) ∧ v.cell? ⟨Bc, 2, none⟩ = some (.int .i64 hi) ∧ Below wr.heap.size wr v)
            (first | exact HK.out _ (Below.refl _ _).drew | exact HK.out _ ((Below.refl _ _).alloc (Nat.le_refl _) _).drew | exact HK.out _ hqu1 | exact HK.out _ (Below.alloc hqu1 (Below.size hqu1) _) | exact HK.out _ (box_two hqu1 HZ.out _ _).2 | exact HK.out _ hqu0 | exact HK.out _ (Below.alloc hqu0 (Below.size hqu0) _) | exact HK.out _ (box_two hqu0 HZ.out _ _).2)
            (first
              | (go_at_call 30; refine (drawn_any _ _ _).mono ?_; rintro e u0 ⟨rfl, hbu0⟩; (first | (have hz := HZ.out.up hbu0; have z0 := hz.cell 0 rfl; have z1 := hz.cell 1 rfl; have y0 := hz.free 0; have y1 := hz.free 1; have HZ := Lib.hid hz; clear hz) | (have hz := boxIn_drew hbu0; have z0 := hz.cell 0 rfl; have z1 := hz.cell 1 rfl; have y0 := hz.free 0; have y1 := hz.free 1; have HZ := Lib.hid hz; clear hz) | (have hz := boxIn_new (n := wr.heap.size) hqu1.size hbu0; have z0 := hz.cell 0 rfl; have z1 := hz.cell 1 rfl; have y0 := hz.free 0; have y1 := hz.free 1; have HZ := Lib.hid hz; clear hz) | (have hz := boxIn_new (n := wr.heap.size) hqu0.size hbu0; have z0 := hz.cell 0 rfl; have z1 := hz.cell 1 rfl; have y0 := hz.free 0; have y1 := hz.free 1; have HZ := Lib.hid hz; clear hz) | skip); have hqu0 : Below wr.heap.size wr u0 := below_then (And.right (And.right (And.right (by assumption)))) hbu0)
              | (go_at_call 31; refine (atMostV hc.out d0 d1 (by omega) hkb (Int.le_refl _) (by omega) HV _).mono ?_; rintro e u1 ⟨rfl, hbu1⟩; (first | (have hz := HZ.out.up hbu1; have z0 := hz.cell 0 rfl; have z1 := hz.cell 1 rfl; have y0 := hz.free 0; have y1 := hz.free 1; have HZ := Lib.hid hz; clear hz) | (have hz := boxIn_drew hbu1; have z0 := hz.cell 0 rfl; have z1 := hz.cell 1 rfl; have y0 := hz.free 0; have y1 := hz.free 1; have HZ := Lib.hid hz; clear hz) | (have hz := boxIn_new (n := wr.heap.size) hqu1.size hbu1; have z0 := hz.cell 0 rfl; have z1 := hz.cell 1 rfl; have y0 := hz.free 0; have y1 := hz.free 1; have HZ := Lib.hid hz; clear hz) | (have hz := boxIn_new (n := wr.heap.size) hqu0.size hbu1; have z0 := hz.cell 0 rfl; have z1 := hz.cell 1 rfl; have y0 := hz.free 0; have y1 := hz.free 1; have HZ := Lib.hid hz; clear hz) | skip); have hqu1 : Below wr.heap.size wr u1 := below_then (And.right (And.right (And.right (by assumption)))) hbu1))
          all_goals
            go_wp2_with fail
            go_meet
            first | exact ⟨(box_last hqu1 _ _).1, rfl, (box_last hqu1 _ _).2⟩ | exact ⟨(box_two hqu1 HZ.out _ _).1, rfl, (box_two hqu1 HZ.out _ _).2⟩
      case rest =>
        obtain ⟨wy, rfl⟩ : ∃ x, x = wc := ⟨_, rfl⟩
        obtain ⟨⟨Bx, rfl, hn, hh⟩, rfl, hbc⟩ := hcut
        replace HC := Lib.hid (heap_lift HC.out hbc)
        replace HP := Lib.hid (heap_lift HP.out hbc)
        replace HBR := Lib.hid (below_then HBR.out hbc)
        have c0 := heap_cell HC.out (j := 0) rfl
        have z0 := heap_cell hh (j := 0) rfl
        have z1 := heap_cell hh (j := 1) rfl
        clear hbc HK hn hh
        go_wp2_with fail
        refine (choose_any b k h36b _).mono ?_
        rw [HS.out]
        rintro e w' ⟨rfl, rfl⟩
        go_wp2_with fail
        refine (overOk m0 m1 s0 s1 HV2 _).mono ?_
        rintro e wz ⟨rfl, hbz⟩
        replace HP := Lib.hid (heap_lift HP.out hbz)
        replace HBR := Lib.hid (below_then HBR.out hbz)
        clear hbz c0 z0 z1
        have e0 := heap_cell HP.out (j := 0) rfl
        have e1 := heap_cell HP.out (j := 1) rfl
        rcases Nat.lt_or_ge k n with hkn | hkn
        · have hlt : (S - M) * q < S * p := by
            have := HF1.out hkn
            rw [HOF.out, decide_eq_false_iff_not, Int.mul_comm p] at this
            omega
          have hne : ((k : Int) == (n : Int)) = false := by simp; omega
          go_wp2_with fail
          go_roundw
          case rel => exact ⟨k + 1, by omega, by go_num, HBR.out⟩
          case measure => (simp [intOf] <;> omega)
        · obtain rfl : k = n := by omega
          have hle : S * p ≤ (S - M) * q := by
            have := hf0.out
            rw [HOF.out, decide_eq_true_eq, Int.mul_comm p] at this
            exact this
          go_wp2_with fail
          go_roundw
          case rel => exact ⟨k + 1, by omega, by go_num, HBR.out⟩
          case measure => (simp [intOf] <;> omega)
    · go_wp2_with fail
      go_ret
      exact ⟨rfl, HB.out.trans (hbr.mono HB.out.size)⟩

/-- The walk of SampleFind. -/
theorem find_walk (b lo hi x num den : Int) (x0 : 0 ≤ x) (x1 : x ≤ 255) (num0 : 0 ≤ num) (num1 : num ≤ 65535) (den0 : 0 ≤ den) (den1 : den ≤ 65535) (w : World) :
    Calls Try.prog 9 #[cargoV b lo hi, .int .u8 x, .int .u16 num, .int .u16 den] w fun e w' => e = .returned (.bool true) ∧ Below w.heap.size w w' := by
  cases hok : Pure.okCargo b lo hi with
  | false => exact find_bad b lo hi x num den (Lib.hid hok) w
  | true =>
    have hk := hok
    unfold Pure.okCargo at hk
    rw [decide_eq_true_eq] at hk
    obtain ⟨b1, b2, l0, l1, hb⟩ := hk
    obtain ⟨bn, rfl⟩ : ∃ bn : Nat, b = bn := ⟨b.toNat, by omega⟩
    obtain ⟨d, hd⟩ : ∃ d, lo + x % (hi - lo + 1) = d := ⟨_, rfl⟩
    have e0 : 0 ≤ x % (hi - lo + 1) := Int.emod_nonneg _ (by omega)
    have e1 : x % (hi - lo + 1) < hi - lo + 1 := Int.emod_lt_of_pos _ (by omega)
    obtain ⟨q, hq⟩ : ∃ q, 1 + den % 1000 = q := ⟨_, rfl⟩
    have q0 : 1 ≤ q := by omega
    have q1 : q ≤ 1000 := by omega
    obtain ⟨p, hp⟩ : ∃ p, num % (q + 1) = p := ⟨_, rfl⟩
    have p0 : 0 ≤ p := by rw [← hp]; exact Int.emod_nonneg _ (by omega)
    have p1 : p < q + 1 := by rw [← hp]; exact Int.emod_lt_of_pos _ (by omega)
    cases hf : Pure.find bn d p q with
    | none =>
      have hz := Pure.find_none_val (by omega) (by omega) (by omega) (by omega) hf
      exact find_no bn lo hi x num den d p q (Lib.hid hok) l0 l1 (by omega) x0 x1 num0 num1 den0 den1 (Lib.hid hd) (Lib.hid hq) (Lib.hid hp) (by omega) (by omega) p0 (by omega) q0 q1 (Lib.hid (by rw [Int.toNat_natCast]; exact hf)) (Lib.hid hz.1) hz.2 w
    | some n =>
      obtain ⟨m, rfl, hm, g0, g1⟩ := Pure.find_some_val hf
      exact find_yes bn lo hi x num den d p q m (Lib.hid hok) b2 l0 l1 (by omega) hb x0 x1 num0 num1 den0 den1 (Lib.hid hd) (Lib.hid hq) (Lib.hid hp) (by omega) (by omega) p0 (by omega) q0 q1 (Lib.hid (by rw [Int.toNat_natCast]; exact hf)) (by omega) (Lib.hid g0) g1 w

end Go.Proofs.Ytnldipniaphmgaa

namespace Go.Proofs.Ytnldipniaphmgaa
open Go.ChangeShapes Go.WideShapes Go.ChangeAt Go.RowKit Go.Joins

theorem u8_span {n : Int} (h : (Lit.int .u8 n).wf = true) : 0 ≤ n ∧ n ≤ 255 := by
  simp [Lit.wf, IntKind.min, IntKind.max, IntKind.bits, IntKind.signed] at h
  omega

theorem u16_span {n : Int} (h : (Lit.int .u16 n).wf = true) : 0 ≤ n ∧ n ≤ 65535 := by
  simp [Lit.wf, IntKind.min, IntKind.max, IntKind.bits, IntKind.signed] at h
  omega

set_option maxRecDepth 100000 in
theorem find_lifted (os : Os) (started : os.Started) (H : Type) (enc : TypeId × Value → H) :
    ReturnsInHanded {} Try.checked os 9 .any (Rows.sampleFindSpec.pre6 enc Try.prog Try.f9 Rows.sampleFindRow.domain false) (Rows.sampleFindSpec.post enc Try.prog Try.f9 false true false false) := by
  refine returnsInHanded_of_change (C := Try.checked) ownKnob_none started (by kernel_rfl) Try.func9
    (ChangeSpec.witness6 (enc := enc) (C := Try.checked) false ⟨#[], #[.agg #[.int .i64 0, .int .i64 0, .int .i64 0], .int .u8 0, .int .u16 0, .int .u16 0], []⟩ 8 (by kernel_rfl) (by kernel_rfl) (by kernel_rfl) (by kernel_rfl)) ?_
  intro W base args ds gs before hval0 hW _ _
  have hval : ∀ (j : Nat) t v, Try.f9.params[j]? = some t → args[j]? = some v → Value.okWide Try.prog W .any base t v := hval0
  have hW' := hW
  obtain ⟨pp, qq, hA0, hV, rfl, hfz, hnd⟩ := hW
  have hA : DataW.TrodAll enc Try.prog W 0 (fun _ => true) true Try.f9.params.toList args.toList ds pp := hA0
  rw [Try.params9] at hA hval
  obtain ⟨v0, vs0, d0, ds0, p0, q0, hargs, rfl, rfl, h0, r0⟩ := trodAll_cons hA
  obtain ⟨v1, vs1, d1, ds1, p1, q1, rfl, rfl, rfl, h1, r1⟩ := trodAll_cons r0
  obtain ⟨v2, vs2, d2, ds2, p2, q2, rfl, rfl, rfl, h2, r2⟩ := trodAll_cons r1
  obtain ⟨v3, vs3, d3, ds3, p3, q3, rfl, rfl, rfl, h3, r3⟩ := trodAll_cons r2
  obtain ⟨rfl, rfl, rfl⟩ := trodAll_nil r3
  obtain rfl : args = #[v0, v1, v2, v3] := by cases args; simp_all
  obtain ⟨rfl, rfl⟩ := trodVars_none hV
  obtain ⟨b0, lo0, hi0, rfl, rfl, rfl, wb0, wl0, wh0⟩ := open_cargo (hval 0 25 v0 rfl rfl) h0
  obtain ⟨a1, rfl, rfl, rfl, wf1⟩ := open_int Try.underlying5 (hval 1 5 v1 rfl rfl) h1
  obtain ⟨a2, rfl, rfl, rfl, wf2⟩ := open_int Try.underlying82 (hval 2 82 v2 rfl rfl) h2
  obtain ⟨a3, rfl, rfl, rfl, wf3⟩ := open_int Try.underlying82 (hval 3 82 v3 rfl rfl) h3
  clear hA0 hval0
  simp only [List.append_nil] at hW'
  refine (find_walk b0 lo0 hi0 a1 a2 a3 (u8_span wf1).1 (u8_span wf1).2 (u16_span wf2).1 (u16_span wf2).2 (u16_span wf3).1 (u16_span wf3).2 W).mono fun e W' ⟨he, hb⟩ => ?_
  subst he
  refine ⟨_, rfl, _, _, _, [], [], [], hW', ?_, ?_, rfl, hb.frame _, fun h => by cases h⟩
  · exact trodAll_mk1 (shut_bool Try.underlying4 true)
  · exact trodAll_cons_mk (shut_cargo wb0 wl0 wh0) (trodAll_cons_mk (shut_int Try.underlying5 wf1) (trodAll_cons_mk (shut_int Try.underlying82 wf2) (trodAll_cons_mk (shut_int Try.underlying82 wf3) trodAll_mk0)))

/-- SampleFind returns true for every input. -/
theorem find_holds : Rows.SampleFindSaid :=
  OpenClaim.holds_of_wide 9 Try.f9 rfl rfl rfl rfl rfl rfl rfl ⟨rfl, rfl, rfl, rfl, rfl⟩ rfl rfl rfl rfl rfl (by kernel_rfl) Try.func9 (by kernel_rfl)
    (of_decide_eq_true (by kernel_rfl)) (by unfold Func.isWrapper; first | (rw [if_pos (by decide +kernel)]; kernel_rfl) | (rw [if_neg (by decide +kernel)]; exact ⟨rfl, rfl⟩))
    (fun os started H enc _ => find_lifted os started H enc)

end Go.Proofs.Ytnldipniaphmgaa
