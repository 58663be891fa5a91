/-
  Plain mathematics: a double rule between two rules, and how many bags it opens.
-/
import Derived.Test.YtiiecehmldipmaaMoreMath
import Derived.Test.YtiiecehmldipmaaTwiceTop
namespace Go.Proofs.Ytiiecehmldipmaa
namespace Pure

theorem sumTo_up {b d o : Int} {f g : Int → Int} : ∀ k : Nat, (∀ j : Nat, j < k → f j ≤ g j) → sumTo b d o f k ≤ sumTo b d o g k
  | 0, _ => Int.le_refl _
  | k + 1, h => by
    rw [sumTo_succ, sumTo_succ]
    have h1 := sumTo_up (b := b) (d := d) (o := o) k (fun j hj => h j (by omega))
    have h2 := Int.mul_le_mul_of_nonneg_left (h k (by omega)) (ways_nonneg b d o k)
    omega
theorem sumTo_same {b d o : Int} {f g : Int → Int} : ∀ k : Nat, (∀ j : Nat, j < k → f j = g j) → sumTo b d o f k = sumTo b d o g k
  | 0, _ => rfl
  | k + 1, h => by rw [sumTo_succ, sumTo_succ, sumTo_same k (fun j hj => h j (by omega)), h k (by omega)]
theorem sumTo_times {b d o c : Int} {f : Int → Int} : ∀ k : Nat, sumTo b d o (fun j => f j * c) k = sumTo b d o f k * c
  | 0 => by show 0 = 0 * c; simp
  | k + 1 => by rw [sumTo_succ, sumTo_succ, sumTo_times k, Int.add_mul, Int.mul_assoc]
/-- The sum of one number for all sets. -/
theorem sum_const {b d o : Int} (hd0 : 0 ≤ d) (hd : d ≤ b) (ho0 : 0 ≤ o) (c : Int) : sum b d o (fun _ => c) = sets b o * c := by
  unfold sum
  have h := sumTo_times (b := b) (d := d) (o := o) (c := c) (f := fun _ => 1) (o + 1).toNat
  have e : sumTo b d o (fun j => (fun _ : Int => (1 : Int)) j * c) (o + 1).toNat = sumTo b d o (fun _ => c) (o + 1).toNat := sumTo_same _ (fun j _ => by show 1 * c = c; omega)
  rw [e] at h
  rw [h]
  have h2 : sumTo b d o (fun _ => 1) (o + 1).toNat = sets b o := by
    have h3 : few b d o o = sets b o := by
      rw [few_eq ho0 (Int.le_refl _), fewTo_all hd0 hd ho0]
    rw [← h3]
    unfold few sum
    exact sumTo_same _ (fun j hj => (ind_le (by omega)).symm)
  rw [h2]
/-- A double rule accepts at least whenever its first bags accept. -/
theorem taken_low {b d x1 a r x2 t : Int} (_h2 : 0 ≤ sets (b - x1) x2) : few b d x1 a * sets (b - x1) x2 ≤ taken b d x1 a r x2 t := by
  unfold few taken sum
  rw [← sumTo_times]
  refine sumTo_up _ fun j _ => ?_
  by_cases h : (j : Int) ≤ a
  · rw [takenF_le h, ind_le h]
    omega
  · rw [ind_gt h]
    have := takenF_nonneg b d x1 a r x2 t j
    omega
/-- It accepts at most whenever they do not refuse. -/
theorem taken_high {b d x1 a r x2 t : Int} (_hd0 : 0 ≤ d) (_hd : d ≤ b) (h1 : 0 ≤ x1) (h2 : 0 ≤ x2) (h12 : x1 + x2 ≤ b) (har : a + 1 ≤ r) (_hr : r ≤ x1 + 1) : taken b d x1 a r x2 t ≤ few b d x1 (r - 1) * sets (b - x1) x2 := by
  unfold few taken sum
  rw [← sumTo_times]
  have hgo : ∀ k : Nat, k ≤ (x1 + 1).toNat → sumTo b d x1 (takenF b d x1 a r x2 t) k ≤ sumTo b d x1 (fun j => ind (r - 1) j * sets (b - x1) x2) k := by
    intro k
    induction k with
    | zero => intro _; exact Int.le_refl _
    | succ k ih =>
      intro hk
      have ih := ih (by omega)
      rw [sumTo_succ, sumTo_succ]
      have hw := ways_nonneg b d x1 k
      have hs : 0 ≤ sets (b - x1) x2 := by have := sets_pos (n := b - x1) (k := x2) h2 (by omega); omega
      have step : ways b d x1 k * takenF b d x1 a r x2 t k ≤ ways b d x1 k * (ind (r - 1) k * sets (b - x1) x2) := by
        by_cases hz : 0 < ways b d x1 k
        · have hp := (ways_pos (b := b) (x := d) (o := x1) (f := (k : Int)) (by omega) (by omega)).1 hz
          apply Int.mul_le_mul_of_nonneg_left _ hw
          by_cases h : (k : Int) ≤ a
          · rw [takenF_le h, ind_le (by omega)]
            omega
          · cases h' : again a r k with
            | true =>
              rw [takenF_again h h']
              have h'' : (k : Int) < r := by
                unfold again at h'
                simp only [Bool.and_eq_true, decide_eq_true_eq] at h'
                exact h'.2
              rw [ind_le (by omega), Int.one_mul]
              by_cases hneg : t - k < 0
              · have e : few (b - x1) (d - k) x2 (t - k) = 0 := by
                  unfold few sum
                  have : ∀ n : Nat, sumTo (b - x1) (d - k) x2 (ind (t - k)) n = 0 := by
                    intro n
                    induction n with
                    | zero => rfl
                    | succ n ih2 => rw [sumTo_succ, ih2, ind_gt (by omega)]; simp
                  exact this _
                rw [e]
                exact hs
              · by_cases hbig : t - k ≤ x2
                · exact few_le_all (by omega) (by omega) h2 (by omega) hbig
                · have e : few (b - x1) (d - k) x2 (t - k) = few (b - x1) (d - k) x2 x2 := by
                    unfold few sum
                    exact sumTo_same _ (fun j hj => by rw [ind_le (by omega), ind_le (by omega)])
                  rw [e]
                  exact few_le_all (by omega) (by omega) h2 h2 (Int.le_refl _)
            | false =>
              rw [takenF_zero h h']
              exact Int.mul_nonneg (ind_nonneg _ _) hs
        · have e : ways b d x1 k = 0 := by omega
          rw [e]
          simp
      omega
  exact hgo _ (Nat.le_refl _)
/-- How many bags a double rule opens, held against its first and all its bags. -/
theorem opens_low {b d x1 a r x2 : Int} (hd0 : 0 ≤ d) (hd : d ≤ b) (h1 : 0 ≤ x1) (h2 : 0 ≤ x2) : x1 * sets b x1 ≤ opens b d x1 a r x2 := by
  rw [Int.mul_comm, ← sum_const hd0 hd h1]
  unfold opens sum
  exact sumTo_up _ (fun j _ => by unfold opensF; split <;> omega)
theorem opens_high {b d x1 a r x2 : Int} (hd0 : 0 ≤ d) (hd : d ≤ b) (h1 : 0 ≤ x1) (h2 : 0 ≤ x2) : opens b d x1 a r x2 ≤ (x1 + x2) * sets b x1 := by
  rw [Int.mul_comm, ← sum_const hd0 hd h1]
  unfold opens sum
  exact sumTo_up _ (fun j _ => by unfold opensF; split <;> omega)
theorem opens_same {b d x1 a r : Int} (hd0 : 0 ≤ d) (hd : d ≤ b) (h1 : 0 ≤ x1) : opens b d x1 a r 0 = x1 * sets b x1 := by
  rw [Int.mul_comm, ← sum_const hd0 hd h1]
  unfold opens sum
  exact sumTo_same _ (fun j _ => by unfold opensF; split <;> omega)
/-- Without second bags a double rule is the rule with the lesser one of its numbers. -/
theorem taken_same {b d x1 a r t : Int} (_hd0 : 0 ≤ d) (_hd : d ≤ b) (h1 : 0 ≤ x1) (h12 : x1 ≤ b) (har : a + 1 ≤ r) (hat : a ≤ t) : taken b d x1 a r 0 t = few b d x1 (min t (r - 1)) := by
  unfold few taken sum
  have hs : sets (b - x1) 0 = 1 := by
    rw [sets_some (Int.le_refl _) (by omega)]
    show ((ch _ 0 : Nat) : Int) = 1
    rw [ch_zero]
    rfl
  have hgo : ∀ k : Nat, k ≤ (x1 + 1).toNat → sumTo b d x1 (takenF b d x1 a r 0 t) k = sumTo b d x1 (ind (min t (r - 1))) k := by
    intro k
    induction k with
    | zero => intro _; rfl
    | succ k ih =>
      intro hk
      rw [sumTo_succ, sumTo_succ, ih (by omega)]
      congr 1
      by_cases hz : 0 < ways b d x1 k
      · have hp := (ways_pos (b := b) (x := d) (o := x1) (f := (k : Int)) (by omega) (by omega)).1 hz
        congr 1
        by_cases h : (k : Int) ≤ a
        · rw [takenF_le h, ind_le (by omega), hs]
        · cases h' : again a r k with
          | true =>
            rw [takenF_again h h']
            have h'' : (k : Int) < r := by
              unfold again at h'
              simp only [Bool.and_eq_true, decide_eq_true_eq] at h'
              exact h'.2
            have hw : ways (b - x1) (d - k) 0 0 = 1 := by
              unfold ways
              rw [sets_some (Int.le_refl _) (by omega), sets_some (by omega) (by omega)]
              show ((ch _ 0 : Nat) : Int) * ((ch _ 0 : Nat) : Int) = 1
              rw [ch_zero, ch_zero]
              rfl
            show 0 + ways (b - x1) (d - k) 0 ((0 : Nat) : Int) * ind (t - k) ((0 : Nat) : Int) = _
            rw [show ((0 : Nat) : Int) = 0 from rfl, hw]
            by_cases ht : (k : Int) ≤ t
            · rw [ind_le (m := t - k) (by omega), ind_le (by omega)]
              rfl
            · rw [ind_gt (m := t - k) (by omega), ind_gt (by omega)]
              rfl
          | false =>
            rw [takenF_zero h h']
            have h'' : ¬ (k : Int) < r := by
              intro hc
              unfold again at h'
              simp only [Bool.and_eq_false_iff, decide_eq_false_iff_not] at h'
              omega
            rw [ind_gt (by omega)]
      · have e : ways b d x1 k = 0 := by have := ways_nonneg b d x1 k; omega
        rw [e]
        simp
  exact hgo _ (Nat.le_refl _)
/-- So many over one, in lowest terms. -/
theorem low_whole {n S : Int} (hn : 0 ≤ n) (hS : 0 < S) : n * S / gcd (n * S) S = n ∧ S / gcd (n * S) S = 1 := by
  have e : gcd (n * S) S = S := by
    obtain ⟨m, rfl⟩ : ∃ m : Nat, n = m := ⟨n.toNat, by omega⟩
    obtain ⟨s, rfl⟩ : ∃ s : Nat, S = s := ⟨S.toNat, by omega⟩
    unfold gcd
    rw [show ((m : Int) * s).toNat = m * s by rw [← Int.natCast_mul]; exact Int.toNat_natCast _, Int.toNat_natCast, Nat.gcd_comm, Nat.gcd_eq_left (Nat.dvd_mul_left s m)]
  rw [e]
  exact ⟨Int.mul_ediv_cancel _ (by omega), Int.ediv_self (by omega)⟩
end Pure
end Go.Proofs.Ytiiecehmldipmaa
