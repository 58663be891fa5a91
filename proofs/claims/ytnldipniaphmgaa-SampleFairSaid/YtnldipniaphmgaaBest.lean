/-
  Plain mathematics: of some numbers those that are worth most, the last one that is as it is asked for.
-/
import Derived.Test.YtnldipniaphmgaaUpTo
namespace Go.Proofs.Ytnldipniaphmgaa
namespace Pure

/-- The most that one of some numbers is worth, at least 0. -/
def most (v : Int → Int) : List Int → Int
  | [] => 0
  | x :: l => max (v x) (most v l)
theorem most_nonneg (v : Int → Int) : ∀ l, 0 ≤ most v l
  | [] => Int.le_refl _
  | x :: l => by unfold most; have := most_nonneg v l; omega
theorem most_snoc (v : Int → Int) (x : Int) : ∀ l, most v (l ++ [x]) = max (most v l) (v x)
  | [] => by simp [most]; omega
  | y :: l => by simp only [List.cons_append, most, most_snoc v x l]; omega
theorem le_most (v : Int → Int) {x : Int} : ∀ {l : List Int}, x ∈ l → v x ≤ most v l
  | [], h => by cases h
  | y :: l, h => by
    unfold most
    rcases List.mem_cons.1 h with rfl | h
    · omega
    · have := le_most v h; omega
theorem most_le (v : Int → Int) {B : Int} (h0 : 0 ≤ B) : ∀ {l : List Int}, (∀ x ∈ l, v x ≤ B) → most v l ≤ B
  | [], _ => h0
  | y :: l, h => by
    unfold most
    have h1 := h y (by simp)
    have h2 := most_le v h0 (l := l) (fun x hx => h x (by simp [hx]))
    omega
/-- Those that are worth most. -/
def best (v : Int → Int) (l : List Int) : List Int := l.filter (fun x => v x == most v l)
theorem best_more {v : Int → Int} {x : Int} {l : List Int} (h : most v l < v x) : best v (l ++ [x]) = [x] := by
  unfold best
  have e : most v (l ++ [x]) = v x := by rw [most_snoc]; omega
  rw [e, List.filter_append]
  have h1 : l.filter (fun y => v y == v x) = [] := by
    rw [List.filter_eq_nil_iff]
    intro y hy hc
    have h2 := le_most v hy
    have h3 : v y = v x := by simpa using hc
    omega
  rw [h1]
  simp
theorem best_same {v : Int → Int} {x : Int} {l : List Int} (h : v x = most v l) : best v (l ++ [x]) = best v l ++ [x] := by
  unfold best
  have e : most v (l ++ [x]) = most v l := by rw [most_snoc]; omega
  rw [e, List.filter_append]
  simp [h]
theorem best_less {v : Int → Int} {x : Int} {l : List Int} (h : v x < most v l) : best v (l ++ [x]) = best v l := by
  unfold best
  have e : most v (l ++ [x]) = most v l := by rw [most_snoc]; omega
  rw [e, List.filter_append]
  have h1 : (v x == most v l) = false := by simp; omega
  simp [h1]
theorem best_length (v : Int → Int) (l : List Int) : (best v l).length ≤ l.length := List.length_filter_le _ _

/-- The last one that is as it is asked for. -/
def lastOf (p : Int → Bool) (l : List Int) : Option Int := (l.filter p).getLast?
theorem lastOf_yes {p : Int → Bool} {x : Int} {l : List Int} (h : p x = true) : lastOf p (l ++ [x]) = some x := by
  unfold lastOf
  rw [List.filter_append]
  simp [h]
theorem lastOf_no {p : Int → Bool} {x : Int} {l : List Int} (h : p x = false) : lastOf p (l ++ [x]) = lastOf p l := by
  unfold lastOf
  rw [List.filter_append]
  simp [h]
end Pure
end Go.Proofs.Ytnldipniaphmgaa
