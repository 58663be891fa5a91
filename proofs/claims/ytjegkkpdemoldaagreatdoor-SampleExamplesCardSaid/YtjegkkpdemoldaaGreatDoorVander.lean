/-
  Plain mathematics: all ways of a draw together are all its sets.
  Plain mathematics: two draws one behind the other have at most 3^36 ways.
  Plain mathematics: factorials, what is drawn and what is dirty exchanged, draws in two parts, the middle of all sets, fractions in lowest terms.
-/
import Derived.Test.YtjegkkpdemoldaaGreatDoorRefB

namespace Go.Proofs.YtjegkkpdemoldaaGreatDoor
namespace Pure

/-- The sum of the first n numbers. -/
def upSum (f : Nat → Nat) : Nat → Nat
  | 0 => 0
  | n + 1 => upSum f n + f n
theorem upSum_congr {f g : Nat → Nat} : ∀ {n : Nat}, (∀ k, k < n → f k = g k) → upSum f n = upSum g n
  | 0, _ => rfl
  | n + 1, h => by
    show upSum f n + f n = upSum g n + g n
    rw [upSum_congr (fun k hk => h k (by omega)), h n (by omega)]
theorem upSum_add (f g : Nat → Nat) : ∀ n : Nat, upSum (fun k => f k + g k) n = upSum f n + upSum g n
  | 0 => rfl
  | n + 1 => by
    show upSum (fun k => f k + g k) n + (f n + g n) = upSum f n + f n + (upSum g n + g n)
    rw [upSum_add f g n]
    omega
theorem upSum_shift (f : Nat → Nat) : ∀ n : Nat, upSum f (n + 1) = f 0 + upSum (fun k => f (k + 1)) n
  | 0 => by show 0 + f 0 = f 0 + 0; omega
  | n + 1 => by
    show upSum f (n + 1) + f (n + 1) = f 0 + (upSum (fun k => f (k + 1)) n + f (n + 1))
    rw [upSum_shift f n]
    omega
theorem upSum_zero : ∀ n : Nat, upSum (fun _ => 0) n = 0
  | 0 => rfl
  | n + 1 => by show upSum (fun _ => 0) n + 0 = 0; rw [upSum_zero n]
/-- **All ways together are all sets**: of m + n things r, so many of the first m. -/
theorem vander (n : Nat) : ∀ (m r : Nat), upSum (fun k => ch m k * ch n (r - k)) (r + 1) = ch (m + n) r
  | 0, r => by
    rw [upSum_shift]
    have h : upSum (fun k => ch 0 (k + 1) * ch n (r - (k + 1))) r = upSum (fun _ => 0) r := upSum_congr (fun k _ => by
      show 0 * _ = 0
      omega)
    rw [h, upSum_zero]
    show 1 * ch n (r - 0) + 0 = ch (0 + n) r
    simp
  | m + 1, 0 => by
    show 0 + ch (m + 1) 0 * ch n (0 - 0) = ch (m + 1 + n) 0
    rw [ch_zero, ch_zero, ch_zero]
  | m + 1, r + 1 => by
    rw [upSum_shift]
    have h1 : upSum (fun k => ch (m + 1) (k + 1) * ch n (r + 1 - (k + 1))) (r + 1) = upSum (fun k => ch m k * ch n (r - k) + ch m (k + 1) * ch n (r - k)) (r + 1) := upSum_congr (fun k _ => by
      show ch (m + 1) (k + 1) * ch n (r + 1 - (k + 1)) = _
      rw [ch_succ, show r + 1 - (k + 1) = r - k by omega, Nat.add_mul])
    have h2 := upSum_add (fun k => ch m k * ch n (r - k)) (fun k => ch m (k + 1) * ch n (r - k)) (r + 1)
    have h3 := vander n m r
    have h4 := vander n m (r + 1)
    rw [upSum_shift] at h4
    have h5 : upSum (fun k => ch m (k + 1) * ch n (r + 1 - (k + 1))) (r + 1) = upSum (fun k => ch m (k + 1) * ch n (r - k)) (r + 1) := upSum_congr (fun k _ => by
      show ch m (k + 1) * ch n (r + 1 - (k + 1)) = _
      rw [show r + 1 - (k + 1) = r - k by omega])
    rw [h1, h2, h3]
    rw [h5] at h4
    have e : ch (m + 1 + n) (r + 1) = ch (m + n) r + ch (m + n) (r + 1) := by rw [show m + 1 + n = m + n + 1 by omega]; exact ch_succ _ _
    rw [e, ← h4]
    simp only [ch_zero]
    omega

theorem fewTo_sum (m n o : Nat) : ∀ k : Nat, k ≤ o + 1 → fewTo ((m : Int) + n) m o k = upSum (fun j => ch m j * ch n (o - j)) k
  | 0, _ => rfl
  | k + 1, h => by
    rw [fewTo_succ, fewTo_sum m n o k (by omega)]
    show _ = ((upSum _ k + ch m k * ch n (o - k) : Nat) : Int)
    have e : ways ((m : Int) + n) m o k = ((ch m k * ch n (o - k) : Nat) : Int) := by
      unfold ways
      rw [show (m : Int) + n - m = n by omega, show (o : Int) - k = ((o - k : Nat) : Int) by omega, sets_nat, sets_nat]
      simp
    rw [e]
    omega
theorem fewTo_mono (b d o : Int) {j : Nat} : ∀ {k : Nat}, j ≤ k → fewTo b d o j ≤ fewTo b d o k
  | 0, h => by obtain rfl : j = 0 := by omega
               exact Int.le_refl _
  | k + 1, h => by
    by_cases e : j = k + 1
    · rw [e]; exact Int.le_refl _
    · rw [fewTo_succ]
      have h1 := fewTo_mono b d o (j := j) (k := k) (by omega)
      have h2 := ways_nonneg b d o k
      omega
/-- All together are all sets. -/
theorem fewTo_all {b d o : Int} (hd0 : 0 ≤ d) (hd : d ≤ b) (ho0 : 0 ≤ o) : fewTo b d o (o + 1).toNat = sets b o := by
  obtain ⟨m, rfl⟩ : ∃ m : Nat, d = m := ⟨d.toNat, by omega⟩
  obtain ⟨n, rfl⟩ : ∃ n : Nat, b = (m : Int) + n := ⟨(b - m).toNat, by omega⟩
  obtain ⟨r, rfl⟩ : ∃ r : Nat, o = r := ⟨o.toNat, by omega⟩
  rw [show ((r : Int) + 1).toNat = r + 1 by omega, fewTo_sum m n r (r + 1) (by omega), vander, ← sets_nat, Int.natCast_add]
theorem few_le_all {b d o f : Int} (hd0 : 0 ≤ d) (hd : d ≤ b) (ho0 : 0 ≤ o) (hf0 : 0 ≤ f) (hf : f ≤ o) : few b d o f ≤ sets b o := by
  rw [few_eq hf0 hf, ← fewTo_all hd0 hd ho0]
  exact fewTo_mono b d o (by omega)
end Pure
end Go.Proofs.YtjegkkpdemoldaaGreatDoor

namespace Go.Proofs.YtjegkkpdemoldaaGreatDoor
namespace Pure
theorem ch_three : ∀ (n k : Nat), k ≤ n → ch n k * 2 ^ (n - k) ≤ 3 ^ n
  | n, 0, _ => by
    rw [ch_zero, Nat.one_mul, Nat.sub_zero]
    exact Nat.pow_le_pow_left (by omega) n
  | n + 1, k + 1, h => by
    rw [ch_succ, show n + 1 - (k + 1) = n - k by omega, Nat.add_mul, Nat.pow_succ 3]
    have h1 := ch_three n k (by omega)
    by_cases e : k = n
    · subst e
      rw [ch_above k (k + 1) (by omega)]
      omega
    · have h2 := ch_three n (k + 1) (by omega)
      have e2 : 2 ^ (n - k) = 2 ^ (n - (k + 1)) * 2 := by rw [← Nat.pow_succ]; congr 1; omega
      have e3 : ch n (k + 1) * 2 ^ (n - k) = ch n (k + 1) * 2 ^ (n - (k + 1)) * 2 := by rw [e2, Nat.mul_assoc]
      rw [e3]
      omega
theorem three_36 : (3 : Nat) ^ 36 = 150094635296999121 := by decide
theorem two_sets {b o s : Int} (hb0 : 0 ≤ b) (hb : b ≤ 36) (ho0 : 0 ≤ o) (ho : o ≤ b) : sets b o * sets (b - o) s ≤ 150094635296999121 := by
  obtain ⟨k, rfl⟩ : ∃ k : Nat, o = k := ⟨o.toNat, by omega⟩
  obtain ⟨n, rfl⟩ : ∃ n : Nat, b = n := ⟨b.toNat, by omega⟩
  have h1 := ch_three n k (by omega)
  have h2 : (3 : Nat) ^ n ≤ 3 ^ 36 := Nat.pow_le_pow_right (by omega) (by omega)
  rw [three_36] at h2
  have h3 : sets ((n : Int) - k) s ≤ 2 ^ (n - k) := by
    have := sets_pow (n := (n : Int) - k) (k := s) (by omega)
    rwa [show ((n : Int) - k).toNat = n - k by omega] at this
  rw [sets_nat]
  have h4 : ((ch n k : Nat) : Int) * sets ((n : Int) - k) s ≤ ((ch n k : Nat) : Int) * (2 : Int) ^ (n - k) := Int.mul_le_mul_of_nonneg_left h3 (by omega)
  have h5 : ((ch n k : Nat) : Int) * (2 : Int) ^ (n - k) = ((ch n k * 2 ^ (n - k) : Nat) : Int) := by simp
  omega
end Pure
end Go.Proofs.YtjegkkpdemoldaaGreatDoor

namespace Go.Proofs.YtjegkkpdemoldaaGreatDoor
namespace Pure

def fact : Nat → Nat
  | 0 => 1
  | n + 1 => (n + 1) * fact n
theorem fact_pos : ∀ n : Nat, 0 < fact n
  | 0 => by decide
  | n + 1 => Nat.mul_pos (by omega) (fact_pos n)
theorem fact_succ (n : Nat) : fact (n + 1) = (n + 1) * fact n := rfl
theorem ch_fact : ∀ x y : Nat, ch (x + y) x * (fact x * fact y) = fact (x + y)
  | 0, y => by rw [ch_zero, Nat.zero_add]; show 1 * (1 * fact y) = fact y; omega
  | x + 1, y => by
    have h := ch_fact x y
    have k := ch_absorb (x + y) x
    rw [show x + 1 + y = x + y + 1 by omega, fact_succ x, fact_succ (x + y)]
    calc ch (x + y + 1) (x + 1) * ((x + 1) * fact x * fact y)
        = (x + 1) * ch (x + y + 1) (x + 1) * (fact x * fact y) := by
          rw [Nat.mul_assoc (x + 1) (fact x), ← Nat.mul_assoc, Nat.mul_comm (ch (x + y + 1) (x + 1))]
      _ = (x + y + 1) * ch (x + y) x * (fact x * fact y) := by rw [k]
      _ = (x + y + 1) * fact (x + y) := by rw [Nat.mul_assoc, h]
/-- Four heaps: the same number, whichever two are laid together first. -/
theorem ch_four (x y z u : Nat) : ch (x + y) x * ch (z + u) z * ch (x + y + (z + u)) (x + y) * (fact x * fact y * (fact z * fact u)) = fact (x + y + (z + u)) := by
  have h1 := ch_fact x y
  have h2 := ch_fact z u
  have h3 := ch_fact (x + y) (z + u)
  calc ch (x + y) x * ch (z + u) z * ch (x + y + (z + u)) (x + y) * (fact x * fact y * (fact z * fact u))
      = ch (x + y + (z + u)) (x + y) * ((ch (x + y) x * (fact x * fact y)) * (ch (z + u) z * (fact z * fact u))) := by ac_rfl
    _ = fact (x + y + (z + u)) := by rw [h1, h2, h3]
theorem ch_swap (x y z u : Nat) : ch (x + y) x * ch (z + u) z * ch (x + y + (z + u)) (x + y) = ch (x + z) x * ch (y + u) y * ch (x + z + (y + u)) (x + z) := by
  have h1 := ch_four x y z u
  have h2 := ch_four x z y u
  have e : x + z + (y + u) = x + y + (z + u) := by omega
  rw [e] at h2 ⊢
  have e2 : fact x * fact z * (fact y * fact u) = fact x * fact y * (fact z * fact u) := by ac_rfl
  rw [e2] at h2
  exact Nat.eq_of_mul_eq_mul_right (Nat.mul_pos (Nat.mul_pos (fact_pos x) (fact_pos y)) (Nat.mul_pos (fact_pos z) (fact_pos u))) (h1.trans h2.symm)
/-- **What is drawn and what is dirty may be exchanged.** -/
theorem ways_swap {b d o k : Int} (hd0 : 0 ≤ d) (hd : d ≤ b) (ho0 : 0 ≤ o) (ho : o ≤ b) : ways b d o k * sets b d = ways b o d k * sets b o := by
  by_cases h0 : k < 0
  · unfold ways; rw [sets_none (n := d) (.inl h0), sets_none (n := o) (.inl h0)]; simp
  by_cases h1 : d < k
  · unfold ways; rw [sets_none (n := d) (.inr h1), sets_none (n := b - o) (k := d - k) (.inl (by omega))]; simp
  by_cases h2 : o < k
  · unfold ways; rw [sets_none (n := b - d) (k := o - k) (.inl (by omega)), sets_none (n := o) (.inr h2)]; simp
  by_cases h3 : b - d < o - k
  · unfold ways; rw [sets_none (n := b - d) (.inr h3), sets_none (n := b - o) (k := d - k) (.inr (by omega))]; simp
  obtain ⟨x, rfl⟩ : ∃ x : Nat, k = x := ⟨k.toNat, by omega⟩
  obtain ⟨y, rfl⟩ : ∃ y : Nat, d = (x + y : Nat) := ⟨(d - x).toNat, by omega⟩
  obtain ⟨z, rfl⟩ : ∃ z : Nat, o = (x + z : Nat) := ⟨(o - x).toNat, by omega⟩
  obtain ⟨u, rfl⟩ : ∃ u : Nat, b = (x + y + (z + u) : Nat) := ⟨(b - ((x + y : Nat) : Int) - z).toNat, by omega⟩
  unfold ways
  have e1 : (((x + y + (z + u) : Nat) : Int) - (x + y : Nat)) = (z + u : Nat) := by omega
  have e2 : (((x + z : Nat) : Int) - (x : Nat)) = (z : Nat) := by omega
  have e3 : (((x + y + (z + u) : Nat) : Int) - (x + z : Nat)) = (y + u : Nat) := by omega
  have e4 : (((x + y : Nat) : Int) - (x : Nat)) = (y : Nat) := by omega
  rw [e1, e2, e3, e4, sets_nat, sets_nat, sets_nat, sets_nat, sets_nat, sets_nat]
  have h := ch_swap x y z u
  rw [show x + z + (y + u) = x + y + (z + u) by omega] at h
  exact_mod_cast h
theorem fewTo_swap {b d o : Int} (hd0 : 0 ≤ d) (hd : d ≤ b) (ho0 : 0 ≤ o) (ho : o ≤ b) : ∀ k : Nat, fewTo b d o k * sets b d = fewTo b o d k * sets b o
  | 0 => by show 0 * _ = 0 * _; simp
  | k + 1 => by rw [fewTo_succ, fewTo_succ, Int.add_mul, Int.add_mul, fewTo_swap hd0 hd ho0 ho k, ways_swap hd0 hd ho0 ho]
theorem few_swap {b d o k : Int} (hd0 : 0 ≤ d) (hd : d ≤ b) (ho0 : 0 ≤ o) (ho : o ≤ b) (hk0 : 0 ≤ k) (hk : k ≤ d) (hk2 : k ≤ o) : few b d o k * sets b d = few b o d k * sets b o := by
  rw [few_eq hk0 hk2, few_eq hk0 hk]
  exact fewTo_swap hd0 hd ho0 ho _

/-- Fractions that are alike have the same lowest terms. -/
theorem low_same {a b c d : Int} (ha : 0 ≤ a) (hb : 0 < b) (hc : 0 ≤ c) (hd : 0 < d) (h : a * d = c * b) : a / gcd a b = c / gcd c d ∧ b / gcd a b = d / gcd c d := by
  obtain ⟨m, rfl⟩ : ∃ m : Nat, a = m := ⟨a.toNat, by omega⟩
  obtain ⟨n, rfl⟩ : ∃ n : Nat, b = n := ⟨b.toNat, by omega⟩
  obtain ⟨p, rfl⟩ : ∃ p : Nat, c = p := ⟨c.toNat, by omega⟩
  obtain ⟨q, rfl⟩ : ∃ q : Nat, d = q := ⟨d.toNat, by omega⟩
  have hn : 0 < n := by omega
  have hq : 0 < q := by omega
  have hh : m * q = p * n := by exact_mod_cast h
  unfold gcd
  simp only [Int.toNat_natCast]
  have g1 : 0 < m.gcd n := Nat.gcd_pos_of_pos_right _ hn
  have g2 : 0 < p.gcd q := Nat.gcd_pos_of_pos_right _ hq
  have e1 : m.gcd n * q = n * p.gcd q := by
    rw [← Nat.gcd_mul_right, hh, ← Nat.gcd_mul_left, Nat.mul_comm n p]
  have e2 : m.gcd n * p = m * p.gcd q := by
    rw [← Nat.gcd_mul_right, ← Nat.gcd_mul_left, hh, Nat.mul_comm n p]
  obtain ⟨x, hx⟩ := Nat.gcd_dvd_left m n
  obtain ⟨y, hy⟩ := Nat.gcd_dvd_right m n
  obtain ⟨s, hs⟩ := Nat.gcd_dvd_left p q
  obtain ⟨t, ht⟩ := Nat.gcd_dvd_right p q
  generalize m.gcd n = g at *
  generalize p.gcd q = k at *
  subst hx hy hs ht
  have r1 : y = t := by
    have : g * (k * t) = g * (k * y) := by rw [e1]; ac_rfl
    exact (Nat.eq_of_mul_eq_mul_left g2 (Nat.eq_of_mul_eq_mul_left g1 this)).symm
  have r2 : x = s := by
    have : g * (k * s) = g * (k * x) := by rw [e2]; ac_rfl
    exact (Nat.eq_of_mul_eq_mul_left g2 (Nat.eq_of_mul_eq_mul_left g1 this)).symm
  subst r1 r2
  have d1 : ∀ g x : Nat, 0 < g → ((g * x : Nat) : Int) / (g : Nat) = x := fun g x hg => by
    rw [Int.natCast_mul, Int.mul_ediv_cancel_left _ (by omega)]
  rw [d1 g x g1, d1 g y g1, d1 k x g2, d1 k y g2]
  exact ⟨rfl, rfl⟩

end Pure
end Go.Proofs.YtjegkkpdemoldaaGreatDoor
