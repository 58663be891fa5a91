/-
  The contracts of checkTerms and off, and of the reference's Terms and off.
-/
import Derived.Test.YtmhhfopiaimhbaaRefC
namespace Go.Proofs.Ytmhhfopiaimhbaa
open Go.RowKit

/-- The slice value holds terms: F j and P j are the j-th's share and pence. -/
def TermsAt (w : World) (a : Option Addr) (len : Nat) (F P : Nat → Int) : Prop :=
  ∀ j, j < len → ∃ b off, a = some ⟨b, off, none⟩ ∧ w.cell? ⟨b, off + j * 2, none⟩ = some (.int .i64 (F j)) ∧ w.cell? ⟨b, off + j * 2 + 1, none⟩ = some (.int .i64 (P j))

theorem TermsAt.below {w w' : World} {a : Option Addr} {len : Nat} {F P : Nat → Int} (h : TermsAt w a len F P) (hb : Below w.heap.size w w') : TermsAt w' a len F P := fun j hj => by
  obtain ⟨b, off, h0, h1, h2⟩ := h j hj
  exact ⟨b, off, h0, below_cell hb h1, below_cell hb h2⟩
theorem TermsAt.step {M : Nat} {w w' : World} {a : Option Addr} {len : Nat} {F P : Nat → Int} (h : TermsAt w a len F P) (hs : Step M w w') (hM : Memo w M) : TermsAt w' a len F P := fun j hj => by
  obtain ⟨b, off, h0, h1, h2⟩ := h j hj
  exact ⟨b, off, h0, hs.cell h1 (cell_not_map hM h1), hs.cell h2 (cell_not_map hM h2)⟩

namespace Pure
/-- A term fits behind the one before it. -/
def fits (F P : Nat → Int) (j : Nat) : Prop := 1 ≤ F j ∧ F j ≤ 100 ∧ 0 ≤ P j ∧ P j ≤ 1000000 ∧ (0 < j → F (j - 1) < F j ∧ P (j - 1) ≤ P j)
instance (F P : Nat → Int) (j : Nat) : Decidable (fits F P j) := by unfold fits; infer_instance
def okTerms (len : Nat) (F P : Nat → Int) : Bool := decide (len ≤ 5 ∧ ∀ j, j < len → fits F P j)
theorem okTerms_true {len : Nat} {F P : Nat → Int} (h : len ≤ 5) (h1 : ∀ j, j < len → fits F P j) : okTerms len F P = true := by unfold okTerms; simpa using ⟨h, h1⟩
theorem okTerms_long {len : Nat} {F P : Nat → Int} (h : ¬ len ≤ 5) : okTerms len F P = false := by unfold okTerms; simp [h]
theorem okTerms_no {len : Nat} {F P : Nat → Int} {k : Nat} (h : k < len) (h1 : ¬ fits F P k) : okTerms len F P = false := by
  unfold okTerms
  rw [decide_eq_false_iff_not]
  rintro ⟨_, h2⟩
  exact h1 (h2 k h)
/-- What the first k terms take off. -/
def offTo (F P : Nat → Int) (o f : Int) : Nat → Int
  | 0 => 0
  | k + 1 => if F k * o ≤ f * 100 then P k else offTo F P o f k
def off (len : Nat) (F P : Nat → Int) (o f : Int) : Int := if o = 0 ∧ f = 0 then 0 else offTo F P o f len
theorem offTo_yes {F P : Nat → Int} {o f : Int} {k : Nat} (h : F k * o ≤ f * 100) : offTo F P o f (k + 1) = P k := by rw [offTo, if_pos h]
theorem offTo_no {F P : Nat → Int} {o f : Int} {k : Nat} (h : ¬ F k * o ≤ f * 100) : offTo F P o f (k + 1) = offTo F P o f k := by rw [offTo, if_neg h]
theorem mul_span {x o : Int} (h0 : 0 ≤ x) (h1 : x ≤ 100) (h2 : 0 ≤ o) (h3 : o ≤ 36) : 0 ≤ x * o ∧ x * o ≤ 3600 := by
  have a := Int.mul_nonneg h0 h2
  have b := Int.mul_le_mul h1 h3 h2 (by decide : (0 : Int) ≤ 100)
  omega
/-- What comes before the k-th term. -/
def prev (F : Nat → Int) (k : Nat) : Int := if k = 0 then 0 else F (k - 1)
theorem prev_zero (F : Nat → Int) : prev F 0 = 0 := rfl
theorem prev_succ (F : Nat → Int) (k : Nat) : prev F (k + 1) = F k := by unfold prev; simp
theorem fits_iff {F P : Nat → Int} {k : Nat} (h : ∀ j, j < k → fits F P j) : fits F P k ↔ (prev F k + 1 ≤ F k ∧ F k ≤ 100) ∧ (prev P k ≤ P k ∧ P k ≤ 1000000) := by
  cases k with
  | zero => unfold fits; rw [prev_zero, prev_zero]; simp; omega
  | succ k =>
    have := h k (by omega)
    unfold fits at this ⊢
    rw [prev_succ, prev_succ]
    simp
    omega
theorem prev_span {F P : Nat → Int} {k : Nat} (h : ∀ j, j < k → fits F P j) : 0 ≤ prev F k ∧ prev F k ≤ 100 ∧ 0 ≤ prev P k ∧ prev P k ≤ 1000000 := by
  cases k with
  | zero => rw [prev_zero, prev_zero]; decide
  | succ k =>
    have := h k (by omega)
    unfold fits at this
    rw [prev_succ, prev_succ]
    omega
end Pure

end Go.Proofs.Ytmhhfopiaimhbaa
