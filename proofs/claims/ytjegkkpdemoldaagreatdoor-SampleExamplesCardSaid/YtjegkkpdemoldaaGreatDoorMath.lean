/-
  Plain mathematics for the statements of layer 1: binomial numbers, their bounds, fractions in lowest terms. No program is named here.
-/
namespace Go.Proofs.YtjegkkpdemoldaaGreatDoor
namespace Pure

/-- How many sets of k things there are of n things. -/
def ch : Nat → Nat → Nat
  | _, 0 => 1
  | 0, _ + 1 => 0
  | n + 1, k + 1 => ch n k + ch n (k + 1)

theorem ch_zero (n : Nat) : ch n 0 = 1 := by cases n <;> rfl
theorem ch_succ (n k : Nat) : ch (n + 1) (k + 1) = ch n k + ch n (k + 1) := rfl
theorem ch_above : ∀ (n k : Nat), n < k → ch n k = 0
  | 0, k + 1, _ => rfl
  | n + 1, k + 1, h => by rw [ch_succ, ch_above n k (by omega), ch_above n (k + 1) (by omega)]
theorem ch_self : ∀ n : Nat, ch n n = 1
  | 0 => rfl
  | n + 1 => by rw [ch_succ, ch_self n, ch_above n (n + 1) (by omega)]
theorem ch_pos : ∀ (n k : Nat), k ≤ n → 0 < ch n k
  | n, 0, _ => by rw [ch_zero]; omega
  | n + 1, k + 1, h => by rw [ch_succ]; have := ch_pos n k (by omega); omega
theorem ch_le_pow : ∀ (n k : Nat), ch n k ≤ 2 ^ n
  | n, 0 => by rw [ch_zero]; exact Nat.one_le_two_pow
  | 0, k + 1 => by simp [ch]
  | n + 1, k + 1 => by rw [ch_succ, Nat.pow_succ]; have := ch_le_pow n k; have := ch_le_pow n (k + 1); omega
theorem ch_mono (n k : Nat) : ch n k ≤ ch (n + 1) k := by
  cases k with
  | zero => simp [ch_zero]
  | succ k => rw [ch_succ]; omega
theorem ch_mono_le {n m : Nat} (h : n ≤ m) (k : Nat) : ch n k ≤ ch m k := by
  induction h with
  | refl => exact Nat.le_refl _
  | step _ ih => exact Nat.le_trans ih (ch_mono _ k)

/-- (k + 1) ch (n + 1) (k + 1) = (n + 1) ch n k. -/
theorem ch_absorb : ∀ (n k : Nat), (k + 1) * ch (n + 1) (k + 1) = (n + 1) * ch n k
  | 0, 0 => rfl
  | 0, k + 1 => by rw [ch_above 1 (k + 1 + 1) (by omega), ch_above 0 (k + 1) (by omega)]; simp
  | n + 1, 0 => by
    have h := ch_absorb n 0
    rw [ch_zero] at h
    rw [ch_succ (n + 1) 0, ch_zero (n + 1)]
    simp at h ⊢
    omega
  | n + 1, k + 1 => by
    have h1 := ch_absorb n k
    have h2 := ch_absorb n (k + 1)
    have e1 : ch (n + 1 + 1) (k + 1 + 1) = ch (n + 1) (k + 1) + ch (n + 1) (k + 1 + 1) := ch_succ _ _
    have e2 : ch (n + 1) (k + 1) = ch n k + ch n (k + 1) := ch_succ _ _
    rw [e1, Nat.mul_add, h2, Nat.add_mul (k + 1) 1, h1, Nat.one_mul]
    rw [Nat.add_mul (n + 1) 1 (ch (n + 1) (k + 1)), Nat.one_mul]
    conv => rhs; rw [e2, Nat.mul_add]
    omega

/-- The number of sets, over all integers: none below 0. -/
def sets (n k : Int) : Int := if k < 0 ∨ n < k then 0 else ch n.toNat k.toNat
theorem sets_none {n k : Int} (h : k < 0 ∨ n < k) : sets n k = 0 := by unfold sets; rw [if_pos h]
theorem sets_some {n k : Int} (h0 : 0 ≤ k) (h1 : k ≤ n) : sets n k = ch n.toNat k.toNat := by unfold sets; rw [if_neg (by omega)]
theorem sets_nat (n k : Nat) : sets n k = ch n k := by
  unfold sets
  split
  · rename_i h; rw [ch_above n k (by omega)]; rfl
  · simp
theorem sets_nonneg (n k : Int) : 0 ≤ sets n k := by unfold sets; split <;> omega
theorem sets_le {n k : Int} (h : n ≤ 36) : sets n k ≤ 68719476736 := by
  unfold sets
  split
  · omega
  · have h1 := ch_le_pow n.toNat k.toNat
    have h2 : 2 ^ n.toNat ≤ 2 ^ 36 := Nat.pow_le_pow_right (by omega) (by omega)
    have h3 : (2 : Nat) ^ 36 = 68719476736 := by decide
    omega
/-- Pascal's rule, as the code uses it: n, k with 0 < k < n. -/
theorem sets_step {n k : Int} (h0 : 0 < k) (h1 : k < n) : sets n k = sets (n - 1) (k - 1) + sets (n - 1) k := by
  obtain ⟨m, rfl⟩ : ∃ m : Nat, n = (m : Int) + 1 := ⟨(n - 1).toNat, by omega⟩
  obtain ⟨j, rfl⟩ : ∃ j : Nat, k = (j : Int) + 1 := ⟨(k - 1).toNat, by omega⟩
  have e1 : ((m : Int) + 1 - 1) = (m : Int) := by omega
  have e2 : ((j : Int) + 1 - 1) = (j : Int) := by omega
  have e3 : ((j : Int) + 1) = ((j + 1 : Nat) : Int) := by omega
  have e4 : ((m : Int) + 1) = ((m + 1 : Nat) : Int) := by omega
  rw [e1, e2, e3, e4, sets_nat, sets_nat, sets_nat, ch_succ]
  omega
theorem sets_edge {n k : Int} (h0 : 0 ≤ k) (h1 : k ≤ n) (h : k = 0 ∨ k = n) : sets n k = 1 := by
  rw [sets_some h0 h1]
  rcases h with rfl | rfl
  · simp [ch_zero]
  · simp [ch_self]

end Pure
end Go.Proofs.YtjegkkpdemoldaaGreatDoor
