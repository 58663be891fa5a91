/-
  Plain mathematics of tanks: tables, what a tank holds at an eighth, the eighth of some pints.
-/
import Derived.WalkKit
namespace Go.Proofs.Ytpgpebgimmaobaa
namespace Pure
/-- An error unless something is so. -/
def err (so : Bool) (n : Int) : Int := if so then 0 else n
theorem err_true (n : Int) : err true n = 0 := rfl
theorem err_false (n : Int) : err false n = n := rfl
/-- The greatest common divisor. -/
def gcd (a b : Int) : Int := (a.toNat.gcd b.toNat : Nat)
theorem gcd_step {a b : Int} (ha : 0 < a) (hb : 0 ≤ b) : gcd (b % a) a = gcd a b := by
  unfold gcd
  rw [Nat.gcd_rec a.toNat b.toNat]
  congr 2
  rw [Int.toNat_emod hb (by omega)]
theorem gcd_zero {b : Int} (hb : 0 ≤ b) : gcd 0 b = b := by
  unfold gcd
  simp
  omega
theorem gcd_pos {a b : Int} (hb : 0 < b) : 0 < gcd a b := by
  unfold gcd
  have : 0 < a.toNat.gcd b.toNat := Nat.gcd_pos_of_pos_right _ (by omega)
  omega
theorem gcd_le {a b : Int} (hb : 0 < b) : gcd a b ≤ b := by
  unfold gcd
  have := Nat.gcd_le_right (m := a.toNat) (n := b.toNat) (by omega)
  omega
theorem gcd_mul {a w : Int} (ha : 0 ≤ a) (hw : 0 < w) : gcd (a * w) w = w := by
  obtain ⟨m, rfl⟩ : ∃ m : Nat, a = m := ⟨a.toNat, by omega⟩
  obtain ⟨n, rfl⟩ : ∃ n : Nat, w = n := ⟨w.toNat, by omega⟩
  unfold gcd
  have h1 : ((m : Int) * (n : Int)).toNat = m * n := by rw [← Int.natCast_mul]; rfl
  rw [h1, Int.toNat_natCast, Nat.gcd_mul_left_left]

/-- The numbers of a table, one behind the other. -/
def Ordered (len : Nat) (F : Nat → Int) : Prop := ∀ i, i < len → 1 ≤ i → F (i - 1) < F i
instance (len : Nat) (F : Nat → Int) : Decidable (Ordered len F) := by unfold Ordered; infer_instance
/-- A tank is valid. -/
def OkTank (len : Nat) (F : Nat → Int) (leak foot : Int) : Prop :=
  (2 ≤ len ∧ len ≤ 21) ∧ (F 0 = 0 ∧ Ordered len F ∧ F (len - 1) ≤ 600) ∧ (0 ≤ leak ∧ leak ≤ 50) ∧ (0 ≤ foot ∧ foot ≤ 8 * ((len : Int) - 1))
instance (len : Nat) (F : Nat → Int) (leak foot : Int) : Decidable (OkTank len F leak foot) := by unfold OkTank; infer_instance
def okTank (len : Nat) (F : Nat → Int) (leak foot : Int) : Bool := decide (OkTank len F leak foot)
theorem okTank_iff {len : Nat} {F : Nat → Int} {leak foot : Int} : okTank len F leak foot = true ↔ OkTank len F leak foot := by unfold okTank; exact decide_eq_true_iff
theorem okTank_no {len : Nat} {F : Nat → Int} {leak foot : Int} (h : ¬ OkTank len F leak foot) : okTank len F leak foot = false := by unfold okTank; exact decide_eq_false h
theorem ordered_lt {len : Nat} {F : Nat → Int} (h : Ordered len F) {i : Nat} : ∀ {j : Nat}, i < j → j < len → F i < F j
  | 0, h0, _ => absurd h0 (Nat.not_lt_zero _)
  | j + 1, h0, h1 => by
    have h2 := h (j + 1) h1 (by omega)
    rw [Nat.add_sub_cancel] at h2
    by_cases e : i = j
    · subst e; exact h2
    · have := ordered_lt h (i := i) (j := j) (by omega) (by omega)
      omega
theorem ordered_le {len : Nat} {F : Nat → Int} (h : Ordered len F) {i j : Nat} (h0 : i ≤ j) (h1 : j < len) : F i ≤ F j := by
  rcases Nat.lt_or_ge i j with h2 | h2
  · have := ordered_lt h h2 h1; omega
  · obtain rfl : i = j := by omega
    exact Int.le_refl _
theorem table_ge {len : Nat} {F : Nat → Int} {leak foot : Int} (h : OkTank len F leak foot) {i : Nat} (hi : i < len) : 0 ≤ F i ∧ F i ≤ 600 := by
  obtain ⟨_, ⟨h0, h1, h2⟩, _, _⟩ := h
  have a := ordered_le h1 (Nat.zero_le i) hi
  have b := ordered_le h1 (show i ≤ len - 1 by omega) (by omega)
  omega
/-- What a tank holds at an eighth, in eighths of a pint. -/
def vol (F : Nat → Int) (e : Int) : Int := 8 * F (e / 8).toNat + (if 0 < e % 8 then e % 8 * (F ((e / 8).toNat + 1) - F (e / 8).toNat) else 0)
theorem vol_span {len : Nat} {F : Nat → Int} {leak foot e : Int} (h : OkTank len F leak foot) (h0 : 0 ≤ e) (h1 : e ≤ 8 * ((len : Int) - 1)) : 0 ≤ vol F e ∧ vol F e ≤ 4800 := by
  have hl := h.1
  have a := table_ge h (i := (e / 8).toNat) (by omega)
  unfold vol
  by_cases hp : 0 < e % 8
  · rw [if_pos hp]
    have b := table_ge h (i := (e / 8).toNat + 1) (by omega)
    have c := ordered_lt h.2.1.2.1 (i := (e / 8).toNat) (j := (e / 8).toNat + 1) (by omega) (by omega)
    have d := Int.mul_le_mul_of_nonneg_right (show e % 8 ≤ 8 by omega) (show 0 ≤ F ((e / 8).toNat + 1) - F (e / 8).toNat by omega)
    have d2 := Int.mul_nonneg (show 0 ≤ e % 8 by omega) (show 0 ≤ F ((e / 8).toNat + 1) - F (e / 8).toNat by omega)
    omega
  · rw [if_neg hp]; omega
/-- The inch below some pints, from one on. -/
def seek (F : Nat → Int) (p : Int) : Nat → Nat → Nat
  | 0, i => i
  | f + 1, i => if F (i + 1) < p then seek F p f (i + 1) else i
theorem seek_step {F : Nat → Int} {p : Int} {f i : Nat} (h : F (i + 1) < p) : seek F p (f + 1) i = seek F p f (i + 1) := by show (if _ then _ else _) = _; rw [if_pos h]
theorem seek_stop {F : Nat → Int} {p : Int} {f i : Nat} (h : ¬ F (i + 1) < p) : seek F p f i = i := by
  cases f with
  | zero => rfl
  | succ f => show (if _ then _ else _) = _; rw [if_neg h]
theorem seek_spec {F : Nat → Int} {p : Int} : ∀ (f i : Nat), p ≤ F (i + f + 1) → (i = 0 ∨ F i < p) → p ≤ F (seek F p f i + 1) ∧ (seek F p f i = 0 ∨ F (seek F p f i) < p) ∧ seek F p f i ≤ i + f
  | 0, i, h, h0 => ⟨h, h0, by show i ≤ i + 0; omega⟩
  | f + 1, i, h, h0 => by
    by_cases e : F (i + 1) < p
    · rw [seek_step e]
      obtain ⟨a, b, c⟩ := seek_spec f (i + 1) (by rw [show i + 1 + f + 1 = i + (f + 1) + 1 by omega]; exact h) (.inr e)
      exact ⟨a, b, by omega⟩
    · rw [seek_stop e]
      exact ⟨by omega, h0, by omega⟩
/-- The eighth of some pints: a number, and what divides it. -/
def numE (F : Nat → Int) (p : Int) (i : Nat) : Int := 8 * ((i : Int) * (F (i + 1) - F i) + p - F i)
def denE (F : Nat → Int) (i : Nat) : Int := F (i + 1) - F i
def eighthN (F : Nat → Int) (p : Int) (i : Nat) : Int := numE F p i / gcd (numE F p i) (denE F i)
def eighthD (F : Nat → Int) (p : Int) (i : Nat) : Int := denE F i / gcd (numE F p i) (denE F i)
theorem eighth_top {F : Nat → Int} {i : Nat} (h : F i < F (i + 1)) : eighthN F (F (i + 1)) i = 8 * ((i : Int) + 1) ∧ eighthD F (F (i + 1)) i = 1 := by
  have e : numE F (F (i + 1)) i = 8 * ((i : Int) + 1) * denE F i := by
    unfold numE denE
    rw [Int.add_sub_assoc, Int.mul_assoc, Int.add_mul, Int.one_mul]
  have hd : 0 < denE F i := by unfold denE; omega
  unfold eighthN eighthD
  rw [e, gcd_mul (by omega) hd]
  exact ⟨Int.mul_ediv_cancel _ (by omega), Int.ediv_self (by omega)⟩
theorem eighth_low {F : Nat → Int} {i : Nat} (h : F i < F (i + 1)) : eighthN F (F i) i = 8 * (i : Int) ∧ eighthD F (F i) i = 1 := by
  have e : numE F (F i) i = 8 * (i : Int) * denE F i := by
    unfold numE denE
    rw [Int.add_sub_assoc, Int.sub_self, Int.add_zero, Int.mul_assoc]
  have hd : 0 < denE F i := by unfold denE; omega
  unfold eighthN eighthD
  rw [e, gcd_mul (by omega) hd]
  exact ⟨Int.mul_ediv_cancel _ (by omega), Int.ediv_self (by omega)⟩
/-- Two ways to look for the inch tell the same fraction. -/
theorem eighth_same {len : Nat} {F : Nat → Int} (h : Ordered len F) {p : Int} {i j : Nat} (hi : i + 1 < len) (hj : j + 1 < len) (h0 : F 0 ≤ p) (i1 : p ≤ F (i + 1)) (i2 : i = 0 ∨ F i < p) (j1 : j + 2 < len → p < F (j + 1)) (j2 : j = 0 ∨ F j ≤ p) :
    eighthN F p i = eighthN F p j ∧ eighthD F p i = eighthD F p j := by
  have hJ : F j ≤ p := by
    rcases j2 with rfl | j2
    · exact h0
    · exact j2
  have hlow : ¬ j < i := fun hlt => by
    rcases i2 with rfl | i2
    · omega
    · have a := j1 (by omega)
      have b := ordered_le h (show j + 1 ≤ i by omega) (by omega)
      omega
  by_cases e : j = i
  · subst e; exact ⟨rfl, rfl⟩
  · have hij : i + 1 ≤ j := by omega
    have a := ordered_le h hij (by omega)
    obtain rfl : p = F (i + 1) := by omega
    by_cases e2 : j = i + 1
    · subst e2
      obtain ⟨a1, a2⟩ := eighth_top (ordered_lt h (i := i) (j := i + 1) (by omega) (by omega))
      obtain ⟨b1, b2⟩ := eighth_low (ordered_lt h (i := i + 1) (j := i + 1 + 1) (by omega) (by omega))
      rw [a1, a2, b1, b2]
      exact ⟨by simp, rfl⟩
    · have b := ordered_lt h (show i + 1 < j by omega) (by omega)
      omega
theorem num_span {len : Nat} {F : Nat → Int} {leak foot p : Int} {i : Nat} (h : OkTank len F leak foot) (hi : i + 1 < len) (h0 : F i ≤ p) (h1 : p ≤ F (len - 1)) : 0 ≤ numE F p i ∧ numE F p i ≤ 1000000 ∧ 0 < denE F i ∧ denE F i ≤ 600 := by
  have a := table_ge h (i := i) (by omega)
  have b := table_ge h (i := i + 1) (by omega)
  have c := ordered_lt h.2.1.2.1 (i := i) (j := i + 1) (by omega) (by omega)
  have d := table_ge h (i := len - 1) (by omega)
  have hl := h.1
  have m1 := Int.mul_nonneg (show 0 ≤ (i : Int) by omega) (show 0 ≤ F (i + 1) - F i by omega)
  have m2 := Int.mul_le_mul (show (i : Int) ≤ 21 by omega) (show F (i + 1) - F i ≤ 600 by omega) (by omega) (by omega)
  unfold numE denE
  omega
end Pure
end Go.Proofs.Ytpgpebgimmaobaa
