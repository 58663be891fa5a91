/-
  Plain mathematics: factorials, what is drawn and what is dirty exchanged, draws in two parts, the middle of all sets, fractions in lowest terms.
-/
import Derived.Test.YtnldipniaphmgaaVander
namespace Go.Proofs.Ytnldipniaphmgaa
namespace Pure

def fact : Nat → Nat
  | 0 => 1
  | n + 1 => (n + 1) * fact n
theorem fact_pos : ∀ n : Nat, 0 < fact n
  | 0 => by decide
  | n + 1 => Nat.mul_pos (by omega) (fact_pos n)
theorem fact_succ (n : Nat) : fact (n + 1) = (n + 1) * fact n := rfl
theorem ch_fact : ∀ x y : Nat, ch (x + y) x * (fact x * fact y) = fact (x + y)
  | 0, y => by rw [ch_zero, Nat.zero_add]; show 1 * (1 * fact y) = fact y; omega
  | x + 1, y => by
    have h := ch_fact x y
    have k := ch_absorb (x + y) x
    rw [show x + 1 + y = x + y + 1 by omega, fact_succ x, fact_succ (x + y)]
    calc ch (x + y + 1) (x + 1) * ((x + 1) * fact x * fact y)
        = (x + 1) * ch (x + y + 1) (x + 1) * (fact x * fact y) := by
          rw [Nat.mul_assoc (x + 1) (fact x), ← Nat.mul_assoc, Nat.mul_comm (ch (x + y + 1) (x + 1))]
      _ = (x + y + 1) * ch (x + y) x * (fact x * fact y) := by rw [k]
      _ = (x + y + 1) * fact (x + y) := by rw [Nat.mul_assoc, h]
/-- Four heaps: the same number, whichever two are laid together first. -/
theorem ch_four (x y z u : Nat) : ch (x + y) x * ch (z + u) z * ch (x + y + (z + u)) (x + y) * (fact x * fact y * (fact z * fact u)) = fact (x + y + (z + u)) := by
  have h1 := ch_fact x y
  have h2 := ch_fact z u
  have h3 := ch_fact (x + y) (z + u)
  calc ch (x + y) x * ch (z + u) z * ch (x + y + (z + u)) (x + y) * (fact x * fact y * (fact z * fact u))
      = ch (x + y + (z + u)) (x + y) * ((ch (x + y) x * (fact x * fact y)) * (ch (z + u) z * (fact z * fact u))) := by ac_rfl
    _ = fact (x + y + (z + u)) := by rw [h1, h2, h3]
theorem ch_swap (x y z u : Nat) : ch (x + y) x * ch (z + u) z * ch (x + y + (z + u)) (x + y) = ch (x + z) x * ch (y + u) y * ch (x + z + (y + u)) (x + z) := by
  have h1 := ch_four x y z u
  have h2 := ch_four x z y u
  have e : x + z + (y + u) = x + y + (z + u) := by omega
  rw [e] at h2 ⊢
  have e2 : fact x * fact z * (fact y * fact u) = fact x * fact y * (fact z * fact u) := by ac_rfl
  rw [e2] at h2
  exact Nat.eq_of_mul_eq_mul_right (Nat.mul_pos (Nat.mul_pos (fact_pos x) (fact_pos y)) (Nat.mul_pos (fact_pos z) (fact_pos u))) (h1.trans h2.symm)
/-- **What is drawn and what is dirty may be exchanged.** -/
theorem ways_swap {b d o k : Int} (hd0 : 0 ≤ d) (hd : d ≤ b) (ho0 : 0 ≤ o) (ho : o ≤ b) : ways b d o k * sets b d = ways b o d k * sets b o := by
  by_cases h0 : k < 0
  · unfold ways; rw [sets_none (n := d) (.inl h0), sets_none (n := o) (.inl h0)]; simp
  by_cases h1 : d < k
  · unfold ways; rw [sets_none (n := d) (.inr h1), sets_none (n := b - o) (k := d - k) (.inl (by omega))]; simp
  by_cases h2 : o < k
  · unfold ways; rw [sets_none (n := b - d) (k := o - k) (.inl (by omega)), sets_none (n := o) (.inr h2)]; simp
  by_cases h3 : b - d < o - k
  · unfold ways; rw [sets_none (n := b - d) (.inr h3), sets_none (n := b - o) (k := d - k) (.inr (by omega))]; simp
  obtain ⟨x, rfl⟩ : ∃ x : Nat, k = x := ⟨k.toNat, by omega⟩
  obtain ⟨y, rfl⟩ : ∃ y : Nat, d = (x + y : Nat) := ⟨(d - x).toNat, by omega⟩
  obtain ⟨z, rfl⟩ : ∃ z : Nat, o = (x + z : Nat) := ⟨(o - x).toNat, by omega⟩
  obtain ⟨u, rfl⟩ : ∃ u : Nat, b = (x + y + (z + u) : Nat) := ⟨(b - ((x + y : Nat) : Int) - z).toNat, by omega⟩
  unfold ways
  have e1 : (((x + y + (z + u) : Nat) : Int) - (x + y : Nat)) = (z + u : Nat) := by omega
  have e2 : (((x + z : Nat) : Int) - (x : Nat)) = (z : Nat) := by omega
  have e3 : (((x + y + (z + u) : Nat) : Int) - (x + z : Nat)) = (y + u : Nat) := by omega
  have e4 : (((x + y : Nat) : Int) - (x : Nat)) = (y : Nat) := by omega
  rw [e1, e2, e3, e4, sets_nat, sets_nat, sets_nat, sets_nat, sets_nat, sets_nat]
  have h := ch_swap x y z u
  rw [show x + z + (y + u) = x + y + (z + u) by omega] at h
  exact_mod_cast h
theorem fewTo_swap {b d o : Int} (hd0 : 0 ≤ d) (hd : d ≤ b) (ho0 : 0 ≤ o) (ho : o ≤ b) : ∀ k : Nat, fewTo b d o k * sets b d = fewTo b o d k * sets b o
  | 0 => by show 0 * _ = 0 * _; simp
  | k + 1 => by rw [fewTo_succ, fewTo_succ, Int.add_mul, Int.add_mul, fewTo_swap hd0 hd ho0 ho k, ways_swap hd0 hd ho0 ho]
theorem few_swap {b d o k : Int} (hd0 : 0 ≤ d) (hd : d ≤ b) (ho0 : 0 ≤ o) (ho : o ≤ b) (hk0 : 0 ≤ k) (hk : k ≤ d) (hk2 : k ≤ o) : few b d o k * sets b d = few b o d k * sets b o := by
  rw [few_eq hk0 hk2, few_eq hk0 hk]
  exact fewTo_swap hd0 hd ho0 ho _

/-- Fractions that are alike have the same lowest terms. -/
theorem low_same {a b c d : Int} (ha : 0 ≤ a) (hb : 0 < b) (hc : 0 ≤ c) (hd : 0 < d) (h : a * d = c * b) : a / gcd a b = c / gcd c d ∧ b / gcd a b = d / gcd c d := by
  obtain ⟨m, rfl⟩ : ∃ m : Nat, a = m := ⟨a.toNat, by omega⟩
  obtain ⟨n, rfl⟩ : ∃ n : Nat, b = n := ⟨b.toNat, by omega⟩
  obtain ⟨p, rfl⟩ : ∃ p : Nat, c = p := ⟨c.toNat, by omega⟩
  obtain ⟨q, rfl⟩ : ∃ q : Nat, d = q := ⟨d.toNat, by omega⟩
  have hn : 0 < n := by omega
  have hq : 0 < q := by omega
  have hh : m * q = p * n := by exact_mod_cast h
  unfold gcd
  simp only [Int.toNat_natCast]
  have g1 : 0 < m.gcd n := Nat.gcd_pos_of_pos_right _ hn
  have g2 : 0 < p.gcd q := Nat.gcd_pos_of_pos_right _ hq
  have e1 : m.gcd n * q = n * p.gcd q := by
    rw [← Nat.gcd_mul_right, hh, ← Nat.gcd_mul_left, Nat.mul_comm n p]
  have e2 : m.gcd n * p = m * p.gcd q := by
    rw [← Nat.gcd_mul_right, ← Nat.gcd_mul_left, hh, Nat.mul_comm n p]
  obtain ⟨x, hx⟩ := Nat.gcd_dvd_left m n
  obtain ⟨y, hy⟩ := Nat.gcd_dvd_right m n
  obtain ⟨s, hs⟩ := Nat.gcd_dvd_left p q
  obtain ⟨t, ht⟩ := Nat.gcd_dvd_right p q
  generalize m.gcd n = g at *
  generalize p.gcd q = k at *
  subst hx hy hs ht
  have r1 : y = t := by
    have : g * (k * t) = g * (k * y) := by rw [e1]; ac_rfl
    exact (Nat.eq_of_mul_eq_mul_left g2 (Nat.eq_of_mul_eq_mul_left g1 this)).symm
  have r2 : x = s := by
    have : g * (k * s) = g * (k * x) := by rw [e2]; ac_rfl
    exact (Nat.eq_of_mul_eq_mul_left g2 (Nat.eq_of_mul_eq_mul_left g1 this)).symm
  subst r1 r2
  have d1 : ∀ g x : Nat, 0 < g → ((g * x : Nat) : Int) / (g : Nat) = x := fun g x hg => by
    rw [Int.natCast_mul, Int.mul_ediv_cancel_left _ (by omega)]
  rw [d1 g x g1, d1 g y g1, d1 k x g2, d1 k y g2]
  exact ⟨rfl, rfl⟩

end Pure
end Go.Proofs.Ytnldipniaphmgaa
