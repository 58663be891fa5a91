/-
  The contract of explained: the draws of so many bags after which a number of dirty bags can be, as a map from which the others have gone.
-/
import Derived.Test.YtmhhfopiaimhbaaDrawKey
import Derived.Test.YtmhhfopiaimhbaaNumbers
namespace Go.Proofs.Ytmhhfopiaimhbaa
open Go.RowKit Go.Maps Go.WideMaps

namespace Pure
/-- Whether some number of dirty bags explains a draw. -/
def some (b : Nat) (lo hi o f : Int) : Bool := (ints (b + 1)).any (okCan b lo hi o f)
end Pure

theorem Holds.congr {o : Int} {D : DataW Unit} {S S' : Nat → Bool} (h : Holds o D S) (e : ∀ k : Nat, (k : Int) ≤ o → S k = S' k) : Holds o D S' :=
  ⟨h.isMap, fun k hk => (h.has k hk).trans (e k hk), h.val, h.only⟩

theorem and_left {x y : Bool} (h : (x && y) = true) : x = true := by
  cases x
  · cases h
  · rfl

/-- A write to a new block. -/
theorem Step.turned {M b : Nat} {w W W' : World} (h : Step M w W) (hg : W.grownBy W' (some b)) (hb : w.heap.size ≤ b) (hM : M < w.heap.size) : Step M w W' :=
  ⟨⟨hg.os.trans h.grown.os, hg.tape.trans h.grown.tape, hg.output.trans h.grown.output, Nat.le_trans h.grown.size hg.size,
    fun i hi hne => (hg.block i (Nat.lt_of_lt_of_le hi h.grown.size) (fun e => by cases e; omega)).trans (h.grown.block i hi hne)⟩,
   h.memo.kept (hg.block M h.memo.lt (fun e => by cases e; omega))⟩
theorem Step.grew {M : Nat} {w W W' : World} (h : Step M w W) (hg : W.grownBy W' none) : Step M w W' :=
  ⟨⟨hg.os.trans h.grown.os, hg.tape.trans h.grown.tape, hg.output.trans h.grown.output, Nat.le_trans h.grown.size hg.size,
    fun i hi hne => (hg.block i (Nat.lt_of_lt_of_le hi h.grown.size) (by simp)).trans (h.grown.block i hi hne)⟩,
   h.memo.kept (hg.block M h.memo.lt (by simp))⟩

end Go.Proofs.Ytmhhfopiaimhbaa
