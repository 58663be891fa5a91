/-
  The contracts of Bound and Find.
  The contract of Find.
-/
import Derived.Test.YtmhhfopiaimhbaaKnow

namespace Go.Proofs.Ytmhhfopiaimhbaa
open Go.RowKit Go.Shelf

namespace Pure
/-- The code of what is asked behind a draw, with a chance. -/
def askE (b lo hi o f p q : Int) : Int := afterE b lo hi o f (okParts 1 (fun _ => p) (fun _ => q))
def boundV (b lo hi o f p q : Int) : Int := if askE b lo hi o f p q = 0 then (bound b.toNat lo hi o f p q).getD 0 else 0
def boundE (b lo hi o f p q : Int) : Int := if askE b lo hi o f p q = 0 then err (bound b.toNat lo hi o f p q).isSome 6 else askE b lo hi o f p q
theorem boundV_zero {b lo hi o f p q : Int} (h : askE b lo hi o f p q = 0) : boundV b lo hi o f p q = (bound b.toNat lo hi o f p q).getD 0 := if_pos h
theorem boundV_err {b lo hi o f p q : Int} (h : askE b lo hi o f p q ≠ 0) : boundV b lo hi o f p q = 0 := if_neg h
theorem boundE_zero {b lo hi o f p q : Int} (h : askE b lo hi o f p q = 0) : boundE b lo hi o f p q = err (bound b.toNat lo hi o f p q).isSome 6 := if_pos h
theorem boundE_err {b lo hi o f p q : Int} (h : askE b lo hi o f p q ≠ 0) : boundE b lo hi o f p q = askE b lo hi o f p q := if_neg h
theorem okParts_one {p q : Int} (h : okParts 1 (fun _ => p) (fun _ => q) = true) : 0 ≤ p ∧ p ≤ q ∧ 1 ≤ q ∧ q ≤ 1000 := by
  unfold okParts at h
  have h1 : okPart p q := of_decide_eq_true h 0 (by decide)
  unfold okPart at h1
  omega
end Pure

end Go.Proofs.Ytmhhfopiaimhbaa

namespace Go.Proofs.Ytmhhfopiaimhbaa
open Go.RowKit Go.Shelf

namespace Pure
def findE (b lo hi d p q : Int) : Int :=
  let code := first3 (err (okCargo b lo hi) 10) (err (okIn lo hi d) 2) (err (okParts 1 (fun _ => p) (fun _ => q)) 12)
  if code = 0 then err (find b.toNat d p q).isSome 6 else code
def findV (b lo hi d p q : Int) : Int :=
  if first3 (err (okCargo b lo hi) 10) (err (okIn lo hi d) 2) (err (okParts 1 (fun _ => p) (fun _ => q)) 12) = 0 then (find b.toNat d p q).getD 0 else 0
end Pure

theorem terms_one {w : World} {s : Nat} {p q : Int} (h0 : w.cell? ⟨s, 0, none⟩ = some (.int .i64 p)) (h1 : w.cell? ⟨s, 1, none⟩ = some (.int .i64 q)) : TermsAt w (some ⟨s, 0, none⟩) 1 (fun _ => p) (fun _ => q) := fun j hj => by
  obtain rfl : j = 0 := by omega
  exact ⟨_, _, rfl, h0, h1⟩
theorem cells_top_drew (w : World) (arr : Array Value) (t : TypeId) {b : Nat} (hb : b = w.heap.size) (j : Nat) : ((w.alloc (.cells arr t)).drew).cell? ⟨b, j, none⟩ = arr[j]? := cells_top w arr t hb j

end Go.Proofs.Ytmhhfopiaimhbaa
