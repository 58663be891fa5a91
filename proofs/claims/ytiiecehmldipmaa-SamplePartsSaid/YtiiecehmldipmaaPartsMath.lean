/-
  Plain mathematics: a draw in two parts is a draw.
-/
import Derived.Test.YtiiecehmldipmaaMoreMath
import Derived.Test.YtiiecehmldipmaaVander
namespace Go.Proofs.Ytiiecehmldipmaa
namespace Pure

/-- Sets of sets: of x + y + z things x and y are taken, in either order. -/
theorem ch_tri (x y z : Nat) : ch (x + y + z) x * ch (y + z) y = ch (x + y + z) (x + y) * ch (x + y) x := by
  have h1 := ch_fact x (y + z)
  have h2 := ch_fact y z
  have h3 := ch_fact (x + y) z
  have h4 := ch_fact x y
  rw [← Nat.add_assoc] at h1
  have e1 : ch (x + y + z) x * ch (y + z) y * (fact x * (fact y * fact z)) = fact (x + y + z) := by
    calc ch (x + y + z) x * ch (y + z) y * (fact x * (fact y * fact z)) = ch (x + y + z) x * (fact x * (ch (y + z) y * (fact y * fact z))) := by ac_rfl
      _ = fact (x + y + z) := by rw [h2, h1]
  have e2 : ch (x + y + z) (x + y) * ch (x + y) x * (fact x * (fact y * fact z)) = fact (x + y + z) := by
    calc ch (x + y + z) (x + y) * ch (x + y) x * (fact x * (fact y * fact z)) = ch (x + y + z) (x + y) * ((ch (x + y) x * (fact x * fact y)) * fact z) := by ac_rfl
      _ = fact (x + y + z) := by rw [h4, h3]
  exact Nat.eq_of_mul_eq_mul_right (Nat.mul_pos (fact_pos x) (Nat.mul_pos (fact_pos y) (fact_pos z))) (e1.trans e2.symm)
theorem sets_tri {n j k : Int} (hj : 0 ≤ j) (hjk : j ≤ k) : sets n j * sets (n - j) (k - j) = sets n k * sets k j := by
  by_cases h : k ≤ n
  · obtain ⟨x, rfl⟩ : ∃ x : Nat, j = x := ⟨j.toNat, by omega⟩
    obtain ⟨y, rfl⟩ : ∃ y : Nat, k = (x + y : Nat) := ⟨(k - x).toNat, by omega⟩
    obtain ⟨z, rfl⟩ : ∃ z : Nat, n = (x + y + z : Nat) := ⟨(n - ((x + y : Nat) : Int)).toNat, by omega⟩
    rw [show (((x + y + z : Nat) : Int) - (x : Nat)) = (y + z : Nat) by omega, show (((x + y : Nat) : Int) - (x : Nat)) = (y : Nat) by omega, sets_nat, sets_nat, sets_nat, sets_nat]
    have := ch_tri x y z
    exact_mod_cast this
  · rw [sets_none (n := n) (k := k) (.inr (by omega))]
    by_cases h2 : n < j
    · rw [sets_none (n := n) (k := j) (.inr h2)]; simp
    · rw [sets_none (n := n - j) (k := k - j) (.inr (by omega))]; simp
/-- One part of the sum: j found first, the others of k then. -/
theorem ways_parts {b d a c j k : Int} (hj : 0 ≤ j) (hja : j ≤ a) (hjk : j ≤ k) (hkj : k - j ≤ c) : ways b d a j * ways (b - a) (d - j) c (k - j) = ways b d (a + c) k * ways (a + c) k a j := by
  unfold ways
  have h1 := sets_tri (n := d) hj hjk
  have h2 := sets_tri (n := b - d) (j := a - j) (k := a + c - k) (by omega) (by omega)
  rw [show b - a - (d - j) = b - d - (a - j) by omega, show c - (k - j) = a + c - k - (a - j) by omega]
  calc sets d j * sets (b - d) (a - j) * (sets (d - j) (k - j) * sets (b - d - (a - j)) (a + c - k - (a - j)))
      = (sets d j * sets (d - j) (k - j)) * (sets (b - d) (a - j) * sets (b - d - (a - j)) (a + c - k - (a - j))) := by ac_rfl
    _ = _ := by rw [h1, h2]; ac_rfl
/-- What a part adds to the sum: nothing if there is none. -/
def partOf (b d a c k j : Int) : Int := if ways b d a j = 0 ∨ k - j < 0 ∨ c < k - j then 0 else ways b d a j * ways (b - a) (d - j) c (k - j)
def partsTo (b d a c k : Int) : Nat → Int
  | 0 => 0
  | n + 1 => partsTo b d a c k n + partOf b d a c k n
theorem partOf_eq {b d a c k j : Int} (_hk : 0 ≤ k) (_hkc : k ≤ a + c) (hj : 0 ≤ j) (hja : j ≤ a) : partOf b d a c k j = ways b d (a + c) k * ways (a + c) k a j := by
  unfold partOf
  by_cases h0 : k - j < 0
  · rw [if_pos (.inr (.inl h0))]
    unfold ways
    rw [sets_none (n := k) (k := j) (.inr (by omega))]
    simp
  by_cases h1 : c < k - j
  · rw [if_pos (.inr (.inr h1))]
    unfold ways
    rw [sets_none (n := a + c - k) (k := a - j) (.inr (by omega))]
    simp
  by_cases h2 : ways b d a j = 0
  · rw [if_pos (.inl h2), ← ways_parts hj hja (by omega) (by omega), h2]
    simp
  · rw [if_neg (by omega)]
    exact ways_parts hj hja (by omega) (by omega)
theorem partsTo_eq {b d a c k : Int} (hk : 0 ≤ k) (hkc : k ≤ a + c) : ∀ n : Nat, (n : Int) ≤ a + 1 → partsTo b d a c k n = ways b d (a + c) k * fewTo (a + c) k a n
  | 0, _ => by show 0 = _ * 0; simp
  | n + 1, h => by
    rw [fewTo_succ, Int.mul_add, ← partsTo_eq hk hkc n (by omega)]
    show partsTo b d a c k n + _ = _
    rw [partOf_eq hk hkc (by omega) (by omega)]
theorem partOf_nonneg (b d a c k j : Int) : 0 ≤ partOf b d a c k j := by
  unfold partOf
  split
  · omega
  · exact Int.mul_nonneg (ways_nonneg _ _ _ _) (ways_nonneg _ _ _ _)
theorem partsTo_nonneg (b d a c k : Int) : ∀ n : Nat, 0 ≤ partsTo b d a c k n
  | 0 => Int.le_refl _
  | n + 1 => by
    have := partsTo_nonneg b d a c k n
    have := partOf_nonneg b d a c k n
    show 0 ≤ partsTo b d a c k n + _
    omega
theorem partsTo_mono (b d a c k : Int) {m : Nat} : ∀ {n : Nat}, m ≤ n → partsTo b d a c k m ≤ partsTo b d a c k n
  | 0, h => by obtain rfl : m = 0 := by omega
               exact Int.le_refl _
  | n + 1, h => by
    by_cases e : m = n + 1
    · rw [e]; exact Int.le_refl _
    · have h1 := partsTo_mono b d a c k (m := m) (n := n) (by omega)
      have h2 := partOf_nonneg b d a c k n
      show _ ≤ partsTo b d a c k n + _
      omega
/-- **A draw in two parts is a draw.** -/
theorem parts_all {b d a c k : Int} (ha : 0 ≤ a) (hc : 0 ≤ c) (_hac : a + c ≤ b) (hk : 0 ≤ k) (hkc : k ≤ a + c) : partsTo b d a c k (a + 1).toNat * sets b (a + c) = ways b d (a + c) k * (sets b a * sets (b - a) c) := by
  rw [partsTo_eq hk hkc _ (by omega), fewTo_all hk hkc ha]
  have h := sets_tri (n := b) (j := a) (k := a + c) ha (by omega)
  rw [show a + c - a = c by omega] at h
  rw [h]
  ac_rfl
theorem parts_le {b d a c k : Int} (hd0 : 0 ≤ d) (hd : d ≤ b) (ha : 0 ≤ a) (hc : 0 ≤ c) (hac : a + c ≤ b) (hk : 0 ≤ k) (hkc : k ≤ a + c) : partsTo b d a c k (a + 1).toNat ≤ sets b a * sets (b - a) c := by
  have h := parts_all (d := d) ha hc hac hk hkc
  have h1 : ways b d (a + c) k ≤ sets b (a + c) := by
    have h2 := few_le_all (b := b) (d := d) (o := a + c) (f := k) hd0 hd (by omega) hk hkc
    have h3 : ways b d (a + c) k ≤ few b d (a + c) k := by
      rw [few_eq hk hkc, show (k + 1).toNat = k.toNat + 1 by omega, fewTo_succ, show ((k.toNat : Nat) : Int) = k by omega]
      have : 0 ≤ fewTo b d (a + c) k.toNat := by
        have := fewTo_mono b d (a + c) (j := 0) (k := k.toNat) (by omega)
        exact this
      omega
    omega
  have h4 : 0 < sets b (a + c) := sets_pos (by omega) hac
  have h5 : 0 ≤ sets b a * sets (b - a) c := Int.mul_nonneg (by have := sets_pos (n := b) (k := a) ha (by omega); omega) (by have := sets_pos (n := b - a) (k := c) hc (by omega); omega)
  have h6 : partsTo b d a c k (a + 1).toNat * sets b (a + c) ≤ sets b a * sets (b - a) c * sets b (a + c) := by
    rw [h, Int.mul_comm (sets b a * sets (b - a) c)]
    exact Int.mul_le_mul_of_nonneg_right h1 h5
  exact Int.le_of_mul_le_mul_right h6 h4
end Pure
end Go.Proofs.Ytiiecehmldipmaa
