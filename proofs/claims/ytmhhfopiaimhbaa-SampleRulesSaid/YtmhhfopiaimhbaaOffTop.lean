/-
  The contracts of the reference's Terms, and of off and the reference's off.
  The contract of the reference's Terms.
  The contracts of Off, and of the reference's Off.
-/
import Derived.Test.YtmhhfopiaimhbaaTerms
import Derived.Deep.QuietTactic

namespace Go.Proofs.Ytmhhfopiaimhbaa
open Go.RowKit

end Go.Proofs.Ytmhhfopiaimhbaa

namespace Go.Proofs.Ytmhhfopiaimhbaa
open Go.RowKit

end Go.Proofs.Ytmhhfopiaimhbaa

namespace Go.Proofs.Ytmhhfopiaimhbaa
open Go.RowKit Go.Shelf

namespace Pure
/-- The first of two codes that is an error. -/
def first2 (a b : Int) : Int := ([a, b].find? (· != 0)).getD 0
theorem first2_zero {a b : Int} (h : first2 a b = 0) : a = 0 ∧ b = 0 := by
  unfold first2 at h
  by_cases ha : a = 0
  · by_cases hb : b = 0
    · exact ⟨ha, hb⟩
    · simp [ha, hb] at h
  · simp [ha] at h
theorem first2_true {a b : Bool} (x y : Int) (ha : a = true) (hb : b = true) : first2 (err a x) (err b y) = 0 := by subst ha hb; rfl
theorem first2_1 {b : Bool} {x : Int} (y : Int) (hx : x ≠ 0) : first2 (err false x) (err b y) = x := by unfold first2 err; simp [hx]
theorem first2_2 {y : Int} (x : Int) (hy : y ≠ 0) : first2 (err true x) (err false y) = y := by unfold first2 err; simp [hy]
end Pure

theorem firstError2 (a b : Int) (s cap : Nat) (w : World) (h0 : w.cell? ⟨s, 0, none⟩ = some (.int .i64 a)) (h1 : w.cell? ⟨s, 1, none⟩ = some (.int .i64 b)) :
    Calls Try.prog 15 #[.slice (some ⟨s, 0, none⟩) 2 cap] w fun e w' => e = .returned (.int .i64 (Pure.first2 a b)) ∧ Below w.heap.size w w' :=
  firstError_any s 2 cap [a, b] rfl (by omega) w (World.block_lt_of_cell? w _ h0) (fun j hj => by
    have : j = 0 ∨ j = 1 := by omega
    rcases this with rfl | rfl
    · exact h0
    · exact h1)

end Go.Proofs.Ytmhhfopiaimhbaa
