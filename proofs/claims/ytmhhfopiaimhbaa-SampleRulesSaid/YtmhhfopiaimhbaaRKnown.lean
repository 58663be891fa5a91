/-
  The contracts of the specification's known and Given.
-/
import Derived.Test.YtmhhfopiaimhbaaRAble
namespace Go.Proofs.Ytmhhfopiaimhbaa
open Go.RowKit Go.Shelf

namespace Pure
theorem okParts_zero (F P : Nat → Int) : okParts 0 F P = true := okParts_true (fun j h => absurd h (Nat.not_lt_zero j))
theorem canE_cargo {b lo hi o f : Int} (h : okCargo b lo hi = false) : canE b lo hi o f = 10 := by
  unfold canE afterE
  rw [h]
  rfl
theorem canE_draw {b lo hi o f : Int} (h : okCargo b lo hi = true) (h1 : okDraw b o f = false) : canE b lo hi o f = 11 := by
  unfold canE afterE
  rw [h, h1]
  rfl
theorem canE_ok {b lo hi o f : Int} (h : okCargo b lo hi = true) (h1 : okDraw b o f = true) : canE b lo hi o f = err (some b.toNat lo hi o f) 8 := by
  unfold canE afterE
  rw [h, h1, okParts_zero]
  rfl
theorem some_nums (b : Nat) (lo hi o f : Int) : some b lo hi o f = !(nums b lo hi o f).isEmpty := by
  show (ints (b + 1)).any (okCan b lo hi o f) = _
  unfold nums
  generalize ints (b + 1) = l
  induction l with
  | nil => rfl
  | cons x l ih =>
    rw [List.any_cons, ih, List.filter_cons]
    cases okCan b lo hi o f x <;> rfl
def knownL (b lo hi o f : Int) : List Int := if canE b lo hi o f = 0 then nums b.toNat lo hi o f else []
theorem knownL_err {b lo hi o f : Int} (h : canE b lo hi o f ≠ 0) : knownL b lo hi o f = [] := if_neg h
theorem knownL_zero {b lo hi o f : Int} (h : canE b lo hi o f = 0) : knownL b lo hi o f = nums b.toNat lo hi o f := if_pos h
end Pure

theorem IntsAt.nil (w : World) (c : Nat) : IntsAt w (.slice none 0 c) [] := ⟨none, c, rfl, fun j x h => by cases h⟩

set_option maxHeartbeats 1000000 in
set_option maxRecDepth 100000 in
theorem rGiven_any (p q : Int) (w : World) :
    Calls Try.prog 56 #[.agg #[.int .i64 p, .int .i64 q]] w fun e w' => e = .returned (.bool (Pure.okParts 1 (fun _ => p) (fun _ => q))) ∧ Below w.heap.size w w' := by
  obtain ⟨r1, h1⟩ : ∃ r1, (decide (1 ≤ q) && decide (q ≤ 1000)) = r1 := ⟨_, rfl⟩
  obtain ⟨r2, h2⟩ : ∃ r2, (decide (0 ≤ p) && decide (p ≤ q)) = r2 := ⟨_, rfl⟩
  have hG : Hid (Pure.okParts 1 (fun _ => p) (fun _ => q) = (r1 && r2)) := by
    subst h1
    subst h2
    refine Lib.hid ?_
    unfold Pure.okParts
    rw [Bool.eq_iff_iff]
    simp only [decide_eq_true_eq, Bool.and_eq_true]
    constructor
    · intro h
      have : Pure.okPart p q := h 0 (by decide)
      unfold Pure.okPart at this
      omega
    · intro h j _
      show Pure.okPart p q
      unfold Pure.okPart
      omega
  have H1 := Lib.hid h1
  have H2 := Lib.hid h2
  clear h1 h2
  cases r1
  · go_enter Try.func56, Try.ntmps56
    go_wp2_with fail
    refine (rWithin_any q 1 1000 _ H1.out _).mono ?_
    rintro e w' ⟨rfl, rfl⟩
    go_wp2_with fail
    go_ret
    exact ⟨ret_bool (by rw [hG.out]; rfl), (Below.refl _ _).alloc (Nat.le_refl _) _⟩
  · go_enter Try.func56, Try.ntmps56
    go_wp2_with fail
    refine (rWithin_any q 1 1000 _ H1.out _).mono ?_
    rintro e w' ⟨rfl, rfl⟩
    go_wp2_with fail
    refine (rWithin_any p 0 q _ H2.out _).mono ?_
    rintro e w' ⟨rfl, rfl⟩
    go_wp2_with fail
    go_ret
    exact ⟨ret_bool (by rw [hG.out]; rfl), (Below.refl _ _).alloc (Nat.le_refl _) _⟩

end Go.Proofs.Ytmhhfopiaimhbaa
