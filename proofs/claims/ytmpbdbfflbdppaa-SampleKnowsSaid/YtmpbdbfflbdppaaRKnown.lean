/-
  The contracts of the specification's known and Given.
-/
import Derived.Test.YtmpbdbfflbdppaaRAble
namespace Go.Proofs.Ytmpbdbfflbdppaa
open Go.RowKit Go.Shelf

namespace Pure
theorem okParts_zero (F P : Nat → Int) : okParts 0 F P = true := okParts_true (fun j h => absurd h (Nat.not_lt_zero j))
theorem canE_cargo {b lo hi o f : Int} (h : okCargo b lo hi = false) : canE b lo hi o f = 10 := by
  unfold canE afterE
  rw [h]
  rfl
theorem canE_draw {b lo hi o f : Int} (h : okCargo b lo hi = true) (h1 : okDraw b o f = false) : canE b lo hi o f = 11 := by
  unfold canE afterE
  rw [h, h1]
  rfl
theorem canE_ok {b lo hi o f : Int} (h : okCargo b lo hi = true) (h1 : okDraw b o f = true) : canE b lo hi o f = err (some b.toNat lo hi o f) 8 := by
  unfold canE afterE
  rw [h, h1, okParts_zero]
  rfl
theorem some_nums (b : Nat) (lo hi o f : Int) : some b lo hi o f = !(nums b lo hi o f).isEmpty := by
  show (ints (b + 1)).any (okCan b lo hi o f) = _
  unfold nums
  generalize ints (b + 1) = l
  induction l with
  | nil => rfl
  | cons x l ih =>
    rw [List.any_cons, ih, List.filter_cons]
    cases okCan b lo hi o f x <;> rfl
def knownL (b lo hi o f : Int) : List Int := if canE b lo hi o f = 0 then nums b.toNat lo hi o f else []
theorem knownL_err {b lo hi o f : Int} (h : canE b lo hi o f ≠ 0) : knownL b lo hi o f = [] := if_neg h
theorem knownL_zero {b lo hi o f : Int} (h : canE b lo hi o f = 0) : knownL b lo hi o f = nums b.toNat lo hi o f := if_pos h
end Pure

theorem IntsAt.nil (w : World) (c : Nat) : IntsAt w (.slice none 0 c) [] := ⟨none, c, rfl, fun j x h => by cases h⟩

set_option maxHeartbeats 2000000 in
set_option maxRecDepth 100000 in
theorem rKnown_any (b lo hi o f : Int) (w : World) :
    Calls Try.prog 56 #[cargoV b lo hi, .agg #[.int .i64 o, .int .i64 f]] w fun e w' => ∃ v, e = .returned (.tuple #[v, .int .i64 (Pure.canE b lo hi o f)]) ∧ IntsAt w' v (Pure.knownL b lo hi o f) ∧ Below w.heap.size w w' := by
  obtain ⟨r1, h1⟩ : ∃ r, Pure.okCargo b lo hi = r := ⟨_, rfl⟩
  obtain ⟨r2, h2⟩ : ∃ r, Pure.okDraw b o f = r := ⟨_, rfl⟩
  have hW1 : ∃ W1, (w.alloc (.cells #[.int .i64 b, .int .i64 lo, .int .i64 hi] 25)).alloc (.cells #[.int .i64 o, .int .i64 f] 27) = W1 := ⟨_, rfl⟩
  obtain ⟨W1, hW1⟩ := hW1
  have hB1 : Below w.heap.size w W1 := by rw [← hW1]; exact ((Below.refl _ _).alloc (Nat.le_refl _) _).alloc (by simp) _
  have hc1 : W1.heap[w.heap.size]? = some (.cells #[.int .i64 b, .int .i64 lo, .int .i64 hi] 25) := by rw [← hW1]; exact heap_up (heap_top _ _ rfl) _
  have hd1 : W1.heap[w.heap.size + 1]? = some (.cells #[.int .i64 o, .int .i64 f] 27) := by rw [← hW1]; exact heap_top _ _ (by simp)
  have HC1 := Lib.hid hc1
  have HD1 := Lib.hid hd1
  have HB1 := Lib.hid hB1
  have HW1 := Lib.hid hW1
  have H1 := Lib.hid h1
  have H2 := Lib.hid h2
  clear hB1 hW1 hc1 hd1 h1 h2
  have hcb : ∀ W : World, Below W1.heap.size W1 W → W.cell? ⟨w.heap.size, 0, none⟩ = some (.int .i64 b) ∧ W.cell? ⟨w.heap.size, 1, none⟩ = some (.int .i64 lo) ∧ W.cell? ⟨w.heap.size, 2, none⟩ = some (.int .i64 hi) ∧ W.cell? ⟨w.heap.size + 1, 0, none⟩ = some (.int .i64 o) ∧ W.cell? ⟨w.heap.size + 1, 1, none⟩ = some (.int .i64 f) := fun W h =>
    ⟨below_cell h (heap_cell HC1.out (j := 0) rfl), below_cell h (heap_cell HC1.out (j := 1) rfl), below_cell h (heap_cell HC1.out (j := 2) rfl), below_cell h (heap_cell HD1.out (j := 0) rfl), below_cell h (heap_cell HD1.out (j := 1) rfl)⟩
  have HCB := Lib.hid hcb
  clear hcb
  cases r1
  · have HE := Lib.hid (Pure.canE_cargo (o := o) (f := f) H1.out)
    rw [HE.out, Pure.knownL_err (by rw [HE.out]; decide)]
    go_enter Try.func56, Try.ntmps56
    go_wp2_with fail
    rw [HW1.out]
    refine (rCargo_any b lo hi _).mono ?_
    rintro e w' ⟨rfl, rfl⟩
    rw [H1.out]
    go_wp2_with fail
    go_ret2
    exact ⟨_, rfl, IntsAt.nil _ _, HB1.out.alloc HB1.out.size _⟩
  · go_enter Try.func56, Try.ntmps56
    go_wp2_with fail
    rw [HW1.out]
    refine (rCargo_any b lo hi _).mono ?_
    rintro e w' ⟨rfl, rfl⟩
    rw [H1.out]
    have hb2 : Below W1.heap.size W1 (W1.alloc (.cells #[.int .i64 b, .int .i64 lo, .int .i64 hi] 25)) := (Below.refl _ _).alloc (Nat.le_refl _) _
    obtain ⟨W2, hW2⟩ : ∃ W2, W1.alloc (.cells #[.int .i64 b, .int .i64 lo, .int .i64 hi] 25) = W2 := ⟨_, rfl⟩
    rw [hW2] at hb2 ⊢
    obtain ⟨c0, c1, c2, d0, d1⟩ := HCB.out _ hb2
    have HB2 := Lib.hid hb2
    clear hb2 hW2
    go_wp2_with fail
    refine (rDraw_any b lo hi o f _).mono ?_
    rintro e w' ⟨rfl, rfl⟩
    rw [H2.out]
    have hb3 := (HB2.out.alloc HB2.out.size (.cells #[.int .i64 b, .int .i64 lo, .int .i64 hi] 25)).alloc (by have := HB2.out.size; simp; omega) (.cells #[.int .i64 o, .int .i64 f] 27)
    obtain ⟨W3, hW3⟩ : ∃ W3, (W2.alloc (.cells #[.int .i64 b, .int .i64 lo, .int .i64 hi] 25)).alloc (.cells #[.int .i64 o, .int .i64 f] 27) = W3 := ⟨_, rfl⟩
    rw [hW3] at hb3 ⊢
    clear c0 c1 c2 d0 d1
    obtain ⟨c0, c1, c2, d0, d1⟩ := HCB.out _ hb3
    have HB3 := Lib.hid hb3
    clear hb3 hW3
    cases r2
    · have HE := Lib.hid (Pure.canE_draw (f := f) H1.out H2.out)
      go_wp2_with fail
      go_ret2
      exact ⟨.slice none 0 0, by rw [HE.out]; rfl, by rw [Pure.knownL_err (by rw [HE.out]; decide)]; exact IntsAt.nil _ _, HB1.out.trans (HB3.out.mono HB1.out.size)⟩
    · have HE := Lib.hid (Pure.canE_ok (f := f) H1.out H2.out)
      have q1 := H1.out
      have q2 := H2.out
      unfold Pure.okCargo at q1
      unfold Pure.okDraw at q2
      simp only [decide_eq_true_eq] at q1 q2
      obtain ⟨b1, b2, b3, b4, b5⟩ := q1
      obtain ⟨o1, o2, o3, o4⟩ := q2
      obtain ⟨bn, rfl⟩ : ∃ n : Nat, b = n := ⟨b.toNat, by omega⟩
      obtain ⟨ln, rfl⟩ : ∃ n : Nat, lo = n := ⟨lo.toNat, by omega⟩
      obtain ⟨hn, rfl⟩ : ∃ n : Nat, hi = n := ⟨hi.toNat, by omega⟩
      go_wp2_with fail
      refine (rAble_any bn ln hn o f (by omega) (by omega) (by omega) (by omega) o1 o2 o3 o4 _).mono ?_
      rintro e W4 ⟨v, rfl, hints, hb4⟩
      have HB4 := Lib.hid (HB1.out.trans ((HB3.out.trans (hb4.mono HB3.out.size)).mono HB1.out.size))
      clear hb4 c0 c1 c2 d0 d1
      have HS := Lib.hid (Pure.some_nums bn ln hn o f)
      have HKL : Hid (Pure.canE bn ln hn o f = 0 → Pure.knownL bn ln hn o f = Pure.nums bn ln hn o f) := Lib.hid (fun h => by rw [Pure.knownL_zero h, Int.toNat_natCast])
      obtain ⟨L, hL⟩ : ∃ L, Pure.nums bn ln hn o f = L := ⟨_, rfl⟩
      rw [hL] at hints HS HKL
      clear hL
      have HI := Lib.hid hints
      obtain ⟨a, cap, rfl, hcells⟩ := hints
      clear hcells
      cases L with
      | nil =>
        have HE2 : Hid (Pure.canE bn ln hn o f = 8) := Lib.hid (by rw [HE.out, Int.toNat_natCast, HS.out]; rfl)
        go_wp2_with fail
        go_ret2
        exact ⟨.slice none 0 0, by rw [HE2.out]; rfl, by rw [Pure.knownL_err (by rw [HE2.out]; decide)]; exact IntsAt.nil _ _, HB4.out⟩
      | cons x L =>
        have HE2 : Hid (Pure.canE bn ln hn o f = 0) := Lib.hid (by rw [HE.out, Int.toNat_natCast, HS.out]; rfl)
        have hne : ((((x :: L).length : Nat) : Int) == 0) = false := by simp; omega
        obtain ⟨k, hk⟩ : ∃ k, (x :: L).length = k := ⟨_, rfl⟩
        have HK := Lib.hid hk
        rw [hk] at hne ⊢
        clear hk
        go_wp2_with fail
        go_ret2
        exact ⟨.slice a k cap, by rw [HE2.out]; rfl, by rw [HKL.out HE2.out, ← HK.out]; exact HI.out, HB4.out⟩

set_option maxHeartbeats 1000000 in
set_option maxRecDepth 100000 in
theorem rGiven_any (p q : Int) (w : World) :
    Calls Try.prog 61 #[.agg #[.int .i64 p, .int .i64 q]] w fun e w' => e = .returned (.bool (Pure.okParts 1 (fun _ => p) (fun _ => q))) ∧ Below w.heap.size w w' := by
  obtain ⟨r1, h1⟩ : ∃ r1, (decide (1 ≤ q) && decide (q ≤ 1000)) = r1 := ⟨_, rfl⟩
  obtain ⟨r2, h2⟩ : ∃ r2, (decide (0 ≤ p) && decide (p ≤ q)) = r2 := ⟨_, rfl⟩
  have hG : Hid (Pure.okParts 1 (fun _ => p) (fun _ => q) = (r1 && r2)) := by
    subst h1
    subst h2
    refine Lib.hid ?_
    unfold Pure.okParts
    rw [Bool.eq_iff_iff]
    simp only [decide_eq_true_eq, Bool.and_eq_true]
    constructor
    · intro h
      have : Pure.okPart p q := h 0 (by decide)
      unfold Pure.okPart at this
      omega
    · intro h j _
      show Pure.okPart p q
      unfold Pure.okPart
      omega
  have H1 := Lib.hid h1
  have H2 := Lib.hid h2
  clear h1 h2
  cases r1
  · go_enter Try.func61, Try.ntmps61
    go_wp2_with fail
    refine (rWithin_any q 1 1000 _ H1.out _).mono ?_
    rintro e w' ⟨rfl, rfl⟩
    go_wp2_with fail
    go_ret
    exact ⟨ret_bool (by rw [hG.out]; rfl), (Below.refl _ _).alloc (Nat.le_refl _) _⟩
  · go_enter Try.func61, Try.ntmps61
    go_wp2_with fail
    refine (rWithin_any q 1 1000 _ H1.out _).mono ?_
    rintro e w' ⟨rfl, rfl⟩
    go_wp2_with fail
    refine (rWithin_any p 0 q _ H2.out _).mono ?_
    rintro e w' ⟨rfl, rfl⟩
    go_wp2_with fail
    go_ret
    exact ⟨ret_bool (by rw [hG.out]; rfl), (Below.refl _ _).alloc (Nat.le_refl _) _⟩

end Go.Proofs.Ytmpbdbfflbdppaa
