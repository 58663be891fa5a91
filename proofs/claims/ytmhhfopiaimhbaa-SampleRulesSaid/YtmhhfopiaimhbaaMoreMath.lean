/-
  Plain mathematics: the more bags are dirty, the fewer draws find few.
  Plain mathematics: the numbers that can be after a draw are all from one to another; the bound is the last of them that has the chance.
-/
import Derived.Test.YtmhhfopiaimhbaaVander
import Derived.Test.YtmhhfopiaimhbaaFindTop

namespace Go.Proofs.Ytmhhfopiaimhbaa
namespace Pure

/-- A dirty bag more takes away the draws that found as many as may be, and this bag. -/
theorem few_step_nat (m n : Nat) : ∀ r f : Nat, f ≤ r + 1 → upSum (fun k => ch (m + 1) k * ch n (r + 1 - k)) (f + 1) + ch m f * ch n (r - f) * (if f ≤ r then 1 else 0) = upSum (fun k => ch m k * ch (n + 1) (r + 1 - k)) (f + 1)
  | r, 0, _ => by
    show 0 + ch (m + 1) 0 * ch n (r + 1 - 0) + ch m 0 * ch n (r - 0) * _ = 0 + ch m 0 * ch (n + 1) (r + 1 - 0)
    rw [ch_zero, ch_zero, Nat.sub_zero, Nat.sub_zero, ch_succ n r]
    simp
    omega
  | r, f + 1, hf => by
    have ih := few_step_nat m n r f (by omega)
    show upSum _ (f + 1) + ch (m + 1) (f + 1) * ch n (r + 1 - (f + 1)) + _ = upSum _ (f + 1) + ch m (f + 1) * ch (n + 1) (r + 1 - (f + 1))
    rw [← ih, show r + 1 - (f + 1) = r - f by omega, ch_succ m f, Nat.add_mul]
    by_cases h : f + 1 ≤ r
    · have e : r - f = r - (f + 1) + 1 := by omega
      rw [if_pos h, if_pos (show f ≤ r by omega), e, ch_succ n (r - (f + 1)), Nat.mul_add (ch m (f + 1))]
      omega
    · by_cases h2 : f ≤ r
      · obtain rfl : f = r := by omega
        rw [if_neg h, if_pos h2, Nat.sub_self, ch_zero, ch_zero]
        omega
      · omega
/-- **The more bags are dirty, the less is the chance to find few.** -/
theorem few_mono {b d o f : Int} (hd0 : 0 ≤ d) (hd : d < b) (ho0 : 0 ≤ o) (hf0 : 0 ≤ f) (hf : f ≤ o) : few b (d + 1) o f ≤ few b d o f := by
  obtain ⟨m, rfl⟩ : ∃ m : Nat, d = m := ⟨d.toNat, by omega⟩
  obtain ⟨n, rfl⟩ : ∃ n : Nat, b = (m : Int) + 1 + n := ⟨(b - m - 1).toNat, by omega⟩
  obtain ⟨k, rfl⟩ : ∃ k : Nat, f = k := ⟨f.toNat, by omega⟩
  rw [few_eq hf0 hf, few_eq hf0 hf, show ((k : Int) + 1).toNat = k + 1 by omega]
  obtain ⟨r, rfl⟩ : ∃ r : Nat, o = r := ⟨o.toNat, by omega⟩
  have e1 := fewTo_sum (m + 1) n r (k + 1) (by omega)
  have e2 := fewTo_sum m (n + 1) r (k + 1) (by omega)
  rw [show (((m + 1 : Nat) : Int) + n) = (m : Int) + 1 + n by omega, show ((m + 1 : Nat) : Int) = (m : Int) + 1 by omega] at e1
  rw [show ((m : Int) + ((n + 1 : Nat) : Int)) = (m : Int) + 1 + n by omega] at e2
  rw [e1, e2]
  cases r with
  | zero =>
    obtain rfl : k = 0 := by omega
    show ((0 + ch (m + 1) 0 * ch n (0 - 0) : Nat) : Int) ≤ ((0 + ch m 0 * ch (n + 1) (0 - 0) : Nat) : Int)
    simp [ch_zero]
  | succ r =>
    have h := few_step_nat m n r k (by omega)
    omega
theorem few_mono_le {b d e o f : Int} (hd0 : 0 ≤ d) (hde : d ≤ e) (he : e ≤ b) (ho0 : 0 ≤ o) (hf0 : 0 ≤ f) (hf : f ≤ o) : few b e o f ≤ few b d o f := by
  obtain ⟨k, rfl⟩ : ∃ k : Nat, e = d + k := ⟨(e - d).toNat, by omega⟩
  induction k with
  | zero => rw [show d + ((0 : Nat) : Int) = d by omega]; exact Int.le_refl _
  | succ k ih =>
    have h := few_mono (b := b) (d := d + k) (o := o) (f := f) (by omega) (by omega) ho0 hf0 hf
    rw [show d + ((k : Int)) + 1 = d + ((k + 1 : Nat) : Int) by omega] at h
    exact Int.le_trans h (ih (by omega) (by omega))
theorem ch_down {n k : Nat} (h : k ≤ n) : (k + 1) * ch n (k + 1) = (n - k) * ch n k := by
  have h1 := ch_absorb n k
  rw [ch_succ, Nat.mul_add] at h1
  obtain ⟨j, rfl⟩ : ∃ j, n = k + j := ⟨n - k, by omega⟩
  rw [show k + j - k = j by omega]
  rw [show k + j + 1 = k + 1 + j by omega, Nat.add_mul (k + 1) j] at h1
  omega
/-- **The more are opened, the less is the chance to find none.** -/
theorem none_less {b d o : Int} (hd0 : 0 ≤ d) (hd : d ≤ b) (ho0 : 0 ≤ o) (ho : o < b) : sets (b - d) (o + 1) * sets b o ≤ sets (b - d) o * sets b (o + 1) := by
  by_cases hc : b - d < o
  · rw [sets_none (n := b - d) (k := o + 1) (.inr (by omega)), sets_none (n := b - d) (k := o) (.inr hc)]
    omega
  obtain ⟨k, rfl⟩ : ∃ k : Nat, o = k := ⟨o.toNat, by omega⟩
  obtain ⟨n, hn⟩ : ∃ n : Nat, b - d = n := ⟨(b - d).toNat, by omega⟩
  obtain ⟨m, rfl⟩ : ∃ m : Nat, b = m := ⟨b.toNat, by omega⟩
  rw [hn, show ((k : Int) + 1) = ((k + 1 : Nat) : Int) by omega, sets_nat, sets_nat, sets_nat, sets_nat]
  have h1 := ch_down (n := n) (k := k) (by omega)
  have h2 := ch_down (n := m) (k := k) (by omega)
  have h3 : (k + 1) * (ch n (k + 1) * ch m k) ≤ (k + 1) * (ch n k * ch m (k + 1)) := by
    rw [← Nat.mul_assoc, h1, Nat.mul_left_comm (k + 1) (ch n k), h2, Nat.mul_assoc, Nat.mul_left_comm (ch n k)]
    exact Nat.mul_le_mul_right _ (by omega)
  have h4 := Nat.le_of_mul_le_mul_left h3 (by omega)
  exact_mod_cast h4

end Pure
end Go.Proofs.Ytmhhfopiaimhbaa

namespace Go.Proofs.Ytmhhfopiaimhbaa
namespace Pure

theorem ways_pos {b x o f : Int} (hf0 : 0 ≤ f) (hf : f ≤ o) : 0 < ways b x o f ↔ f ≤ x ∧ o - f ≤ b - x := by
  constructor
  · intro h
    constructor
    · refine Int.not_lt.1 fun hc => ?_
      unfold ways at h
      rw [sets_none (n := x) (k := f) (.inr hc)] at h
      omega
    · refine Int.not_lt.1 fun hc => ?_
      unfold ways at h
      rw [sets_none (n := b - x) (k := o - f) (.inr hc)] at h
      omega
  · rintro ⟨h1, h2⟩
    exact Int.mul_pos (sets_pos hf0 h1) (sets_pos (by omega) h2)
/-- The numbers that can be are those from the greater of two to the lesser of two. -/
theorem mem_span {b : Nat} {lo hi o f x : Int} (_ : 0 ≤ lo) (hb : hi ≤ b) (hf0 : 0 ≤ f) (hf : f ≤ o) : x ∈ nums b lo hi o f ↔ max lo f ≤ x ∧ x ≤ min hi (b - o + f) := by
  rw [mem_nums]
  unfold okCan
  simp only [Bool.and_eq_true, decide_eq_true_eq]
  constructor
  · rintro ⟨⟨h1, h2⟩, ⟨h3, h4⟩, h5⟩
    have := (ways_pos hf0 hf).1 h5
    omega
  · rintro ⟨h1, h2⟩
    exact ⟨⟨by omega, by omega⟩, ⟨by omega, by omega⟩, (ways_pos hf0 hf).2 ⟨by omega, by omega⟩⟩
theorem fst_of {b A : Int} {l : List Int} (hl : l.Pairwise (· < ·)) (hA : A ∈ l) (h : ∀ x ∈ l, A ≤ x) : fst b l = A := by
  cases l with
  | nil => cases hA
  | cons y l =>
    show y = A
    have h1 := h y (by simp)
    rcases List.mem_cons.1 hA with rfl | h2
    · rfl
    · have := (List.pairwise_cons.1 hl).1 A h2
      omega
theorem lst_of {B : Int} {l : List Int} (hl : l.Pairwise (· < ·)) (hB : B ∈ l) (h : ∀ x ∈ l, x ≤ B) : lst l = B := by
  unfold lst
  cases e : l.getLast? with
  | none =>
    rw [List.getLast?_eq_none_iff] at e
    subst e
    cases hB
  | some y =>
    show y = B
    obtain ⟨ys, rfl⟩ := List.getLast?_eq_some_iff.1 e
    have h1 := h y (by simp)
    rcases List.mem_append.1 hB with h2 | h2
    · have := (List.pairwise_append.1 hl).2.2 B h2 y (by simp)
      omega
    · have : B = y := by simpa using h2
      omega
theorem span_vals {b : Nat} {lo hi o f : Int} (l0 : 0 ≤ lo) (hb : hi ≤ b) (hf0 : 0 ≤ f) (hf : f ≤ o) (h : max lo f ≤ min hi (b - o + f)) :
    fst b (nums b lo hi o f) = max lo f ∧ lst (nums b lo hi o f) = min hi (b - o + f) :=
  ⟨fst_of (nums_rising b lo hi o f) ((mem_span l0 hb hf0 hf).2 ⟨Int.le_refl _, h⟩) (fun _ hx => ((mem_span l0 hb hf0 hf).1 hx).1),
    lst_of (nums_rising b lo hi o f) ((mem_span l0 hb hf0 hf).2 ⟨h, Int.le_refl _⟩) (fun _ hx => ((mem_span l0 hb hf0 hf).1 hx).2)⟩

/-- s is the last number from lo on, before lo + k, that is as it is asked for; -1 if there is none. -/
def IsBest (C : Int → Bool) (lo : Int) (k : Nat) (s : Int) : Prop :=
  (s = -1 ∧ ∀ x, lo ≤ x → x < lo + k → C x = false) ∨ (C s = true ∧ lo ≤ s ∧ s < lo + k ∧ ∀ x, s < x → x < lo + k → C x = false)
theorem isBest_zero (C : Int → Bool) (lo : Int) : IsBest C lo 0 (-1) := .inl ⟨rfl, fun x h1 h2 => by omega⟩
theorem isBest_yes {C : Int → Bool} {lo s : Int} {k : Nat} (_ : IsBest C lo k s) (h : C (lo + k) = true) : IsBest C lo (k + 1) (lo + k) :=
  .inr ⟨h, by omega, by omega, fun x h1 h2 => by omega⟩
theorem isBest_no {C : Int → Bool} {lo s : Int} {k : Nat} (hs : IsBest C lo k s) (h : C (lo + k) = false) : IsBest C lo (k + 1) s := by
  rcases hs with ⟨h1, h2⟩ | ⟨h1, h2, h3, h4⟩
  · refine .inl ⟨h1, fun x a b => ?_⟩
    by_cases e : x = lo + k
    · rw [e]; exact h
    · exact h2 x a (by omega)
  · refine .inr ⟨h1, h2, by omega, fun x a b => ?_⟩
    by_cases e : x = lo + k
    · rw [e]; exact h
    · exact h4 x a (by omega)
theorem isBest_range {C : Int → Bool} {lo s : Int} {k : Nat} (hs : IsBest C lo k s) : s = -1 ∨ (lo ≤ s ∧ s < lo + k) := by
  rcases hs with ⟨h1, _⟩ | ⟨_, h2, h3, _⟩
  · exact .inl h1
  · exact .inr ⟨h2, h3⟩
theorem last_of {B : Int} {l : List Int} (hl : l.Pairwise (· < ·)) (hB : B ∈ l) (h : ∀ x ∈ l, x ≤ B) : l.getLast? = Option.some B := by
  cases e : l.getLast? with
  | none =>
    rw [List.getLast?_eq_none_iff] at e
    subst e
    cases hB
  | some y =>
    obtain ⟨ys, rfl⟩ := List.getLast?_eq_some_iff.1 e
    have h1 := h y (by simp)
    congr 1
    rcases List.mem_append.1 hB with h2 | h2
    · have := (List.pairwise_append.1 hl).2.2 B h2 y (by simp)
      omega
    · have : B = y := by simpa using h2
      omega
/-- What is asked of a number for the bound. -/
def okAsk (b o f p q A B : Int) (x : Int) : Bool := decide (A ≤ x) && decide (x ≤ B) && decide (sets b o * p ≤ few b x o f * q)
theorem okAsk_iff {b o f p q A B x : Int} : okAsk b o f p q A B x = true ↔ A ≤ x ∧ x ≤ B ∧ okBound b o f p q x = true := by
  unfold okAsk okBound
  simp only [Bool.and_eq_true, decide_eq_true_eq, Int.mul_comm p]
  exact and_assoc
theorem bound_best {b k : Nat} {lo hi o f p q s : Int} (l0 : 0 ≤ lo) (hb : hi ≤ b) (hf0 : 0 ≤ f) (hf : f ≤ o) (hk : lo + k = hi + 1) (hs : IsBest (okAsk b o f p q (max lo f) (min hi (b - o + f))) lo k s) :
    (s = -1 ∧ bound b lo hi o f p q = none) ∨ (0 ≤ s ∧ bound b lo hi o f p q = Option.some s) := by
  unfold bound lastOf
  rcases hs with ⟨h1, h2⟩ | ⟨h1, h2, h3, h4⟩
  · refine .inl ⟨h1, ?_⟩
    rw [List.getLast?_eq_none_iff, List.filter_eq_nil_iff]
    intro x hx hc
    have hm := (mem_span l0 hb hf0 hf).1 hx
    have := h2 x (by omega) (by omega)
    rw [okAsk_iff.2 ⟨hm.1, hm.2, hc⟩] at this
    cases this
  · have h5 := okAsk_iff.1 h1
    refine .inr ⟨by omega, last_of ((nums_rising b lo hi o f).filter _) (List.mem_filter.2 ⟨(mem_span l0 hb hf0 hf).2 ⟨h5.1, h5.2.1⟩, h5.2.2⟩) fun x hx => ?_⟩
    obtain ⟨hx1, hx2⟩ := List.mem_filter.1 hx
    have hm := (mem_span l0 hb hf0 hf).1 hx1
    refine Int.not_lt.1 fun hc => ?_
    have := h4 x hc (by omega)
    rw [okAsk_iff.2 ⟨hm.1, hm.2, hx2⟩] at this
    cases this
theorem some_iff {b : Nat} {lo hi o f : Int} (l0 : 0 ≤ lo) (hb : hi ≤ b) (hf0 : 0 ≤ f) (hf : f ≤ o) : some b lo hi o f = true ↔ max lo f ≤ min hi (b - o + f) := by
  unfold some
  rw [List.any_eq_true]
  constructor
  · rintro ⟨x, h1, h2⟩
    have := (mem_span l0 hb hf0 hf).1 (List.mem_filter.2 ⟨h1, h2⟩)
    omega
  · intro h
    have := (mem_span (x := max lo f) l0 hb hf0 hf).2 ⟨Int.le_refl _, h⟩
    obtain ⟨h1, h2⟩ := List.mem_filter.1 this
    exact ⟨_, h1, h2⟩
theorem afterE_val {b lo hi o f : Int} (hc : okCargo b lo hi = true) (hd : okDraw b o f = true) : afterE b lo hi o f true = err (some b.toNat lo hi o f) 8 := by
  unfold afterE
  rw [hc, hd]
  rfl
/-- Two fractions in lowest terms, held against each other. -/
theorem le_low {n d m e : Int} (hn : 0 ≤ n) (hd : 0 < d) (hm : 0 ≤ m) (he : 0 < e) (h : n * e ≤ m * d) : n / gcd n d * (e / gcd m e) ≤ m / gcd m e * (d / gcd n d) := by
  rw [low_le hn hd, low_ge hm he]
  exact h
end Pure
end Go.Proofs.Ytmhhfopiaimhbaa
