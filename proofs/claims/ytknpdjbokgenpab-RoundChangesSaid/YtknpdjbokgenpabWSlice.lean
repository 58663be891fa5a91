/-
  Slice expressions s[:k] and s[k:] as operations, whatever the slice.
-/
import Derived.Test.YtknpdjbokgenpabWCopy
namespace Go.Proofs.Ytknpdjbokgenpab
open Go.RowKit

/-- Where s[k:] begins. -/
def tailA (a : Option Addr) (c k s : Nat) : Option Addr := if c = k then a else a.map (·.add (k * s))
theorem exec_slice_hi {P : Program} {o : Oper} {a : Act} {w : World} (t e : TypeId) (x hi : Operand) (sz : Nat) (ho : o.op = .slice t x none (some hi) none) (hu : P.underlying t = some (.slice e)) (hs : ∀ w, (sizeOf e).run P w = .ok sz w)
    {s : Option Addr} {n c k : Nat} (hx : a.eval x = .slice s n c) (hh : a.eval hi = .int .i64 k) (hk : k ≤ c) : (execOp a.eval o).run P w = .ok (.value (.slice s k c)) w := by
  unfold execOp
  have h1 : (0 : Int) ≤ k ∧ (k : Int) ≤ c := by omega
  simp [ho, Instr.sliceAt, Instr.slice, Instr.sliceBounds, Instr.sliceBound, run_underlying hu, hx, hh, hs, asIntOf, h1, hk]
  cases s <;> simp [Addr.add]
theorem exec_slice_lo {P : Program} {o : Oper} {a : Act} {w : World} (t e : TypeId) (x lo : Operand) (sz : Nat) (ho : o.op = .slice t x (some lo) none none) (hu : P.underlying t = some (.slice e)) (hs : ∀ w, (sizeOf e).run P w = .ok sz w)
    {s : Option Addr} {n c k : Nat} (hx : a.eval x = .slice s n c) (hh : a.eval lo = .int .i64 k) (hk : k ≤ n) : (execOp a.eval o).run P w = .ok (.value (.slice (tailA s c k sz) (n - k) (c - k))) w := by
  unfold execOp
  have h1 : (0 : Int) ≤ k ∧ (k : Int) ≤ n := by omega
  simp [ho, Instr.sliceAt, Instr.slice, Instr.sliceBounds, Instr.sliceBound, run_underlying hu, hx, hh, hs, asIntOf, h1, hk, tailA]
theorem NumsAt.head {w : World} {a : Option Addr} {n k s : Nat} {F : Nat → Int} (h : NumsAt w a (n * s) F) (hk : k ≤ n) : NumsAt w a (k * s) F := fun j hj => h j (Nat.lt_of_lt_of_le hj (Nat.mul_le_mul_right _ hk))
theorem NumsAt.tail {w : World} {a : Option Addr} {n c k s : Nat} {F : Nat → Int} (h : NumsAt w a (n * s) F) (hk : k ≤ n) (hc : n ≤ c) : NumsAt w (tailA a c k s) ((n - k) * s) (fun q => F (k * s + q)) := fun j hj => by
  have h1 : k < n := by
    rcases Nat.lt_or_ge k n with g | g
    · exact g
    · rw [show n - k = 0 by omega] at hj; omega
  have h2 : k * s + j < n * s := by
    have e : n * s = k * s + (n - k) * s := by rw [← Nat.add_mul]; congr 1; omega
    omega
  obtain ⟨b, off, rfl, h4⟩ := h (k * s + j) h2
  refine ⟨b, off + k * s, ?_, by rw [Nat.add_assoc]; exact h4⟩
  unfold tailA
  rw [if_neg (by omega)]
  simp [Go.WideShapes.add_plain]
theorem tailA_none {a : Option Addr} {c k s : Nat} (h : tailA a c k s = none) : a = none := by
  unfold tailA at h
  split at h
  · exact h
  · simpa using h

end Go.Proofs.Ytknpdjbokgenpab
