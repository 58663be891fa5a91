/-
  The contract of span: the least and the greatest number that can be.
-/
import Derived.Test.YtmhhfopiaimhbaaLoop
namespace Go.Proofs.Ytmhhfopiaimhbaa
open Go.RowKit Go.Shelf
attribute [local go_sem] Oper.semAt_some

namespace Pure
theorem ints_rising : ∀ n : Nat, (ints n).Pairwise (· < ·)
  | 0 => List.Pairwise.nil
  | n + 1 => by
    rw [ints_succ, List.pairwise_append]
    refine ⟨ints_rising n, List.pairwise_singleton _ _, ?_⟩
    intro x hx y hy
    have h1 := mem_ints.1 hx
    have h2 : y = n := by simpa using hy
    omega
theorem nums_rising (b : Nat) (lo hi o f : Int) : (nums b lo hi o f).Pairwise (· < ·) := (ints_rising (b + 1)).filter _
/-- The first of some numbers, the last one. -/
def fst (b : Int) (l : List Int) : Int := l.head?.getD b
def lst (l : List Int) : Int := l.getLast?.getD 0
theorem fst_snoc {b x : Int} {l : List Int} (hl : ∀ y ∈ l, y < x) (hb : x ≤ b) : fst b (l ++ [x]) = min (fst b l) x := by
  unfold fst
  cases l with
  | nil => simp; omega
  | cons y l =>
    have := hl y (by simp)
    simp
    omega
theorem lst_snoc {x : Int} {l : List Int} (hl : ∀ y ∈ l, y < x) (hx : 0 ≤ x) : lst (l ++ [x]) = max (lst l) x := by
  unfold lst
  simp
  cases h : l.getLast? with
  | none => simp; omega
  | some y =>
    have := hl y (List.mem_of_getLast? h)
    simp
    omega
theorem prefix_less {pre xs : List Int} {x : Int} (h : pre ++ [x] <+: xs) (hx : xs.Pairwise (· < ·)) : ∀ y ∈ pre, y < x := by
  obtain ⟨t, rfl⟩ := h
  rw [List.pairwise_append] at hx
  have h1 := List.pairwise_append.1 hx.1
  exact fun y hy => h1.2.2 y hy x (by simp)
end Pure

end Go.Proofs.Ytmhhfopiaimhbaa
