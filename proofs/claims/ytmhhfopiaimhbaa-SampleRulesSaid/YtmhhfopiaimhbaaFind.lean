/-
  The contract of find.
-/
import Derived.Test.YtmhhfopiaimhbaaBound
import Derived.Test.YtmhhfopiaimhbaaRefB
import Derived.Test.YtmhhfopiaimhbaaTail
namespace Go.Proofs.Ytmhhfopiaimhbaa
open Go.RowKit Go.Shelf

namespace Pure
/-- Whether so many bags find a dirty one with at least a chance p/q. -/
def okFind (b d p q x : Int) : Bool := decide (p * sets b x ≤ (sets b x - few b d x 0) * q)
theorem few_zero {b d x : Int} (_hb0 : 0 ≤ b) (_hb : b ≤ 36) (hd0 : 0 ≤ d) (_hd : d ≤ b) (hx0 : 0 ≤ x) (_hx : x ≤ b) : few b d x 0 = sets (b - d) x := by
  rw [few_eq (by omega) hx0]
  show fewTo b d x 1 = _
  rw [fewTo_succ]
  show 0 + sets d 0 * sets (b - d) (x - 0) = _
  rw [sets_edge (n := d) (k := 0) (by omega) hd0 (.inl rfl)]
  simp
theorem sets_mono {n m k : Int} (_h0 : 0 ≤ n) (h : n ≤ m) : sets n k ≤ sets m k := by
  by_cases hk : k < 0
  · rw [sets_none (.inl hk)]; exact sets_nonneg _ _
  · by_cases h1 : n < k
    · rw [sets_none (.inr h1)]; exact sets_nonneg _ _
    · rw [sets_some (by omega) (by omega), sets_some (by omega) (by omega)]
      have := ch_mono_le (n := n.toNat) (m := m.toNat) (by omega) k.toNat
      omega
theorem few_le_sets {b d x : Int} (hb0 : 0 ≤ b) (hb : b ≤ 36) (hd0 : 0 ≤ d) (hd : d ≤ b) (hx0 : 0 ≤ x) (hx : x ≤ b) : few b d x 0 ≤ sets b x := by
  rw [few_zero hb0 hb hd0 hd hx0 hx]
  exact sets_mono (by omega) (by omega)
theorem any_find {α : Type} (f : α → Bool) : ∀ l : List α, l.any f = (l.find? f).isSome
  | [] => rfl
  | x :: l => by
    simp only [List.any_cons, List.find?_cons]
    cases h : f x
    · simpa using any_find f l
    · rfl
def find (b : Nat) (d p q : Int) : Option Int := (ints (b + 1)).find? (okFind b d p q)
end Pure

end Go.Proofs.Ytmhhfopiaimhbaa
