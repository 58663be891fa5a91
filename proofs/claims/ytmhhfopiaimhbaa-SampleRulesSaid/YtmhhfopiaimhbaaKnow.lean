/-
  The contracts of Can, Rest, Likely, Bound and Find.
-/
import Derived.Test.YtmhhfopiaimhbaaLikely
import Derived.Test.YtmhhfopiaimhbaaFind
namespace Go.Proofs.Ytmhhfopiaimhbaa
open Go.RowKit Go.Shelf

namespace Pure
/-- v if there is no error, otherwise 0. -/
def pick (code v : Int) : Int := if code = 0 then v else 0
theorem pick_zero {code v : Int} (h : code = 0) : pick code v = v := if_pos h
theorem pick_err {code v : Int} (h : code ≠ 0) : pick code v = 0 := if_neg h
end Pure

theorem no_parts (w : World) : TermsAt w none 0 (fun _ => 0) (fun _ => 0) := fun _ h => absurd h (Nat.not_lt_zero _)

/-- What a call of the layer's top returns of a span. -/
def Pure.canE (b lo hi o f : Int) : Int := Pure.afterE b lo hi o f (Pure.okParts 0 (fun _ => 0) (fun _ => 0))

namespace Pure
theorem afterE_zero {b lo hi o f : Int} {c : Bool} (h : afterE b lo hi o f c = 0) : (1 ≤ b ∧ b ≤ 36 ∧ 0 ≤ lo ∧ lo ≤ hi ∧ hi ≤ b) ∧ (0 ≤ o ∧ o ≤ b ∧ 0 ≤ f ∧ f ≤ o) ∧ c = true ∧ some b.toNat lo hi o f = true := by
  unfold afterE at h
  by_cases h1 : first3 (err (okCargo b lo hi) 10) (err (okDraw b o f) 11) (err c 12) = 0
  · simp only [h1, if_true] at h
    obtain ⟨q1, q2, q3⟩ := first3_zero h1
    have q1 := err_zero q1 (by decide)
    have q2 := err_zero q2 (by decide)
    have q3 := err_zero q3 (by decide)
    have q4 := err_zero h (by decide)
    unfold okCargo at q1
    unfold okDraw at q2
    simp only [decide_eq_true_eq] at q1 q2
    exact ⟨by omega, q2, q3, q4⟩
  · simp only [h1, if_false] at h
end Pure

namespace Pure
def likelyL (b lo hi o f : Int) : List Int := if canE b lo hi o f = 0 then likely b.toNat lo hi o f else []
theorem likelyL_zero {b lo hi o f : Int} (h : canE b lo hi o f = 0) : likelyL b lo hi o f = likely b.toNat lo hi o f := if_pos h
theorem likelyL_err {b lo hi o f : Int} (h : canE b lo hi o f ≠ 0) : likelyL b lo hi o f = [] := if_neg h
def restE (b lo hi o f : Int) : Int := if canE b lo hi o f = 0 then (if o = b then 6 else 0) else canE b lo hi o f
theorem restE_err {b lo hi o f : Int} (h : canE b lo hi o f ≠ 0) : restE b lo hi o f = canE b lo hi o f := if_neg h
theorem restE_all {b lo hi o f : Int} (h : canE b lo hi o f = 0) (h1 : o = b) : restE b lo hi o f = 6 := by unfold restE; rw [if_pos h, if_pos h1]
theorem restE_some {b lo hi o f : Int} (h : canE b lo hi o f = 0) (h1 : ¬ o = b) : restE b lo hi o f = 0 := by unfold restE; rw [if_pos h, if_neg h1]
theorem span_bounds {b : Nat} {lo hi o f : Int} : (0 ≤ fst b (nums b lo hi o f) ∧ fst b (nums b lo hi o f) ≤ b) ∧ (0 ≤ lst (nums b lo hi o f) ∧ lst (nums b lo hi o f) ≤ b) := by
  have hm : ∀ x ∈ nums b lo hi o f, 0 ≤ x ∧ x ≤ b := fun x hx => (mem_nums.1 hx).1
  constructor
  · unfold fst
    cases h : (nums b lo hi o f).head? with
    | none => simp <;> omega
    | some x => exact hm x (List.mem_of_mem_head? h)
  · unfold lst
    cases h : (nums b lo hi o f).getLast? with
    | none => simp
    | some x => exact hm x (List.mem_of_getLast? h)
end Pure

end Go.Proofs.Ytmhhfopiaimhbaa
