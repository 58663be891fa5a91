/-
  Plain mathematics: the numbers of a cargo before a draw, and the cells of a curve.
-/
import Derived.Test.YtmhhfopiaimhbaaRCurve
import Derived.Test.YtmhhfopiaimhbaaMoreMath
namespace Go.Proofs.Ytmhhfopiaimhbaa
namespace Pure

/-- Before a draw all numbers of the span can be. -/
theorem nums_all {b : Nat} {lo hi : Int} (l0 : 0 ≤ lo) (l1 : lo ≤ hi) (hb : hi ≤ b) : nums b lo hi 0 0 = (List.range (hi - lo + 1).toNat).map (fun j : Nat => lo + (j : Int)) := by
  have key : ∀ k : Nat, lo + (k : Int) ≤ hi + 1 → numsTo b lo hi 0 0 (lo.toNat + k) = (List.range k).map (fun j : Nat => lo + (j : Int)) := by
    intro k
    induction k with
    | zero =>
      intro _
      rw [Nat.add_zero, numsTo_start b lo hi 0 0 lo.toNat (by omega)]
      rfl
    | succ k ih =>
      intro h
      have hc : okCan b lo hi 0 0 ((lo.toNat + k : Nat) : Int) = true := by
        unfold okCan
        rw [decide_eq_true (show lo ≤ ((lo.toNat + k : Nat) : Int) by omega), decide_eq_true (show ((lo.toNat + k : Nat) : Int) ≤ hi by omega), decide_eq_true ((ways_pos (Int.le_refl 0) (Int.le_refl 0)).2 ⟨by omega, by omega⟩)]
        rfl
      rw [← Nat.add_assoc, numsTo_succ, ih (by omega), List.range_succ, List.map_append, if_pos hc]
      congr 1
      simp
      omega
  rw [nums_eq (n := lo.toNat + (hi - lo + 1).toNat) (by omega) (by omega), key _ (by omega)]
end Pure
/-- The cells of fractions, one for each number of a list. -/
def cellsOf (N D : Int → Int) (l : List Int) : List Value := l.flatMap (fun n => [.int .i64 (N n), .int .i64 (D n)])
theorem cellsOf_snoc (N D : Int → Int) (l : List Int) (x : Int) : cellsOf N D (l ++ [x]) = cellsOf N D l ++ [.int .i64 (N x), .int .i64 (D x)] := by
  unfold cellsOf
  rw [List.flatMap_append]
  rfl
theorem cellsOf_range (N D : Int → Int) (lo : Int) : ∀ k : Nat, cellsOf N D ((List.range k).map (fun j : Nat => lo + (j : Int))) = cells2 (fun j => N (lo + (j : Int))) (fun j => D (lo + (j : Int))) k
  | 0 => rfl
  | k + 1 => by
    rw [List.range_succ, List.map_append, List.map_cons, List.map_nil, cellsOf_snoc, cellsOf_range N D lo k]
    rfl
end Go.Proofs.Ytmhhfopiaimhbaa
