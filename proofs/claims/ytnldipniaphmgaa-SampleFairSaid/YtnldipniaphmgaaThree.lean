/-
  Plain mathematics: two draws one behind the other have at most 3^36 ways.
-/
import Derived.Test.YtnldipniaphmgaaVander
namespace Go.Proofs.Ytnldipniaphmgaa
namespace Pure
theorem ch_three : ∀ (n k : Nat), k ≤ n → ch n k * 2 ^ (n - k) ≤ 3 ^ n
  | n, 0, _ => by
    rw [ch_zero, Nat.one_mul, Nat.sub_zero]
    exact Nat.pow_le_pow_left (by omega) n
  | n + 1, k + 1, h => by
    rw [ch_succ, show n + 1 - (k + 1) = n - k by omega, Nat.add_mul, Nat.pow_succ 3]
    have h1 := ch_three n k (by omega)
    by_cases e : k = n
    · subst e
      rw [ch_above k (k + 1) (by omega)]
      omega
    · have h2 := ch_three n (k + 1) (by omega)
      have e2 : 2 ^ (n - k) = 2 ^ (n - (k + 1)) * 2 := by rw [← Nat.pow_succ]; congr 1; omega
      have e3 : ch n (k + 1) * 2 ^ (n - k) = ch n (k + 1) * 2 ^ (n - (k + 1)) * 2 := by rw [e2, Nat.mul_assoc]
      rw [e3]
      omega
theorem three_36 : (3 : Nat) ^ 36 = 150094635296999121 := by decide
theorem two_sets {b o s : Int} (hb0 : 0 ≤ b) (hb : b ≤ 36) (ho0 : 0 ≤ o) (ho : o ≤ b) : sets b o * sets (b - o) s ≤ 150094635296999121 := by
  obtain ⟨k, rfl⟩ : ∃ k : Nat, o = k := ⟨o.toNat, by omega⟩
  obtain ⟨n, rfl⟩ : ∃ n : Nat, b = n := ⟨b.toNat, by omega⟩
  have h1 := ch_three n k (by omega)
  have h2 : (3 : Nat) ^ n ≤ 3 ^ 36 := Nat.pow_le_pow_right (by omega) (by omega)
  rw [three_36] at h2
  have h3 : sets ((n : Int) - k) s ≤ 2 ^ (n - k) := by
    have := sets_pow (n := (n : Int) - k) (k := s) (by omega)
    rwa [show ((n : Int) - k).toNat = n - k by omega] at this
  rw [sets_nat]
  have h4 : ((ch n k : Nat) : Int) * sets ((n : Int) - k) s ≤ ((ch n k : Nat) : Int) * (2 : Int) ^ (n - k) := Int.mul_le_mul_of_nonneg_left h3 (by omega)
  have h5 : ((ch n k : Nat) : Int) * (2 : Int) ^ (n - k) = ((ch n k * 2 ^ (n - k) : Nat) : Int) := by simp
  omega
end Pure
end Go.Proofs.Ytnldipniaphmgaa
