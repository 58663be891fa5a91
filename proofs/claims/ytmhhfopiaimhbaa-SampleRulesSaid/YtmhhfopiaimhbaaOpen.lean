/-
  Arguments that came in, read and written back: cargoes, draws, fractions, rules.
-/
import Derived.Test.YtmhhfopiaimhbaaRows
import Derived.Test.YtmhhfopiaimhbaaChecks
import Derived.ProofKit
import Derived.OpenShut
import Derived.Lib.SmallJoins
namespace Go.Proofs.Ytmhhfopiaimhbaa
open Go.ChangeShapes Go.WideShapes Go.ChangeAt Go.RowKit Go.Joins

theorem cellsCargo : Try.prog.cellsOf 25 = 3 := by kernel_rfl
theorem cellsSpan : Try.prog.cellsOf 23 = 2 := by kernel_rfl
theorem cellsDraw : Try.prog.cellsOf 74 = 2 := by kernel_rfl
theorem cellsPart : Try.prog.cellsOf 31 = 2 := by kernel_rfl
theorem cellsRule : Try.prog.cellsOf 27 = 2 := by kernel_rfl
theorem cellsInt : Try.prog.cellsOf 3 = 1 := by kernel_rfl
theorem ownKnob_none : ownKnob Try.prog.godebug = none := by kernel_rfl

section
variable {H : Type} {enc : TypeId × Value → H} {w : World} {base : Nat} {sp : Nat → Bool} {held : Bool}

theorem read_int {n : Nat} {c : Value} {y : DataW H × List MemPlace} (h : DataW.trod enc Try.prog w base sp held n 3 [c] = some y) : ∃ a : Int, c = .int .i64 a ∧ y = (.lit (.int .i64 a), []) ∧ (Lit.int .i64 a).wf = true := by
  obtain ⟨a, e0, hy, wa⟩ := DataW.trod_int Try.underlying3 h
  refine ⟨a, ?_, hy, wa⟩
  simpa using e0

set_option maxRecDepth 100000 in
/-- A cargo that came in. -/
theorem open_cargo {r : Reach} {b0 : Nat} {v : Value} {d : DataW H} {p : List MemPlace} (hv : Value.okWide Try.prog w r b0 25 v) (h : DataW.Trod enc Try.prog w base sp held 25 v d p) :
    ∃ b lo hi : Int, v = cargoV b lo hi ∧ d = .agg [.lit (.int .i64 b), .agg [.lit (.int .i64 lo), .lit (.int .i64 hi)]] ∧ p = [] ∧ (Lit.int .i64 b).wf = true ∧ (Lit.int .i64 lo).wf = true ∧ (Lit.int .i64 hi).wf = true := by
  obtain ⟨cs, rfl, hsz⟩ := okWide_struct Try.underlying25 hv
  obtain ⟨c0, c1, c2, rfl⟩ := array3 (hsz.trans cellsCargo)
  obtain ⟨fuel, hf⟩ := h
  obtain ⟨y0, y1, n, hx, _, h0, h1⟩ := trod_struct2 Try.underlying25 hf
  simp only [Prod.mk.injEq] at hx
  simp [Value.cells, cellsInt, cellsSpan] at h0 h1
  obtain ⟨b, rfl, rfl, wb⟩ := read_int h0
  obtain ⟨z0, z1, m, hz, _, k0, k1⟩ := trod_struct2 Try.underlying23 h1
  simp [cellsInt] at k0 k1
  obtain ⟨lo, rfl, rfl, wl⟩ := read_int k0
  obtain ⟨hi, rfl, rfl, wh⟩ := read_int k1
  obtain ⟨hx1, hx2⟩ := hx
  subst hz
  exact ⟨b, lo, hi, rfl, hx1, by simpa using hx2, wb, wl, wh⟩

theorem shut_cargo {b lo hi : Int} (wb : (Lit.int .i64 b).wf = true) (wl : (Lit.int .i64 lo).wf = true) (wh : (Lit.int .i64 hi).wf = true) :
    DataW.Trod enc Try.prog w base sp held 25 (cargoV b lo hi) (.agg [.lit (.int .i64 b), .agg [.lit (.int .i64 lo), .lit (.int .i64 hi)]]) [] := by
  refine ⟨3, ?_⟩
  have h0 : DataW.trod enc Try.prog w base sp held 2 3 [.int .i64 b] = some (.lit (.int .i64 b), []) := by simp [DataW.trod, Try.underlying3, wb]
  have h1 : DataW.trod enc Try.prog w base sp held 2 23 [.int .i64 lo, .int .i64 hi] = some (.agg [.lit (.int .i64 lo), .lit (.int .i64 hi)], []) := by
    have k0 : DataW.trod enc Try.prog w base sp held 1 3 [.int .i64 lo] = some (.lit (.int .i64 lo), []) := by simp [DataW.trod, Try.underlying3, wl]
    have k1 : DataW.trod enc Try.prog w base sp held 1 3 [.int .i64 hi] = some (.lit (.int .i64 hi), []) := by simp [DataW.trod, Try.underlying3, wh]
    have := trod_struct2_mk (enc := enc) (P := Try.prog) (w := w) (base := base) (spare := sp) (held := held) (n := 1) (cs := [.int .i64 lo, .int .i64 hi]) Try.underlying23 (by rw [cellsSpan]; rfl) (by simpa [cellsInt] using k0) (by simpa [cellsInt] using k1)
    simpa using this
  have := trod_struct2_mk (enc := enc) (P := Try.prog) (w := w) (base := base) (spare := sp) (held := held) (n := 2) (cs := [.int .i64 b, .int .i64 lo, .int .i64 hi]) Try.underlying25 (by rw [cellsCargo]; rfl) (by simpa [cellsInt] using h0) (by simpa [cellsSpan] using h1)
  simpa [Value.cells] using this

set_option maxRecDepth 100000 in
/-- A draw that came in. -/
theorem open_draw {r : Reach} {b0 : Nat} {v : Value} {d : DataW H} {p : List MemPlace} (hv : Value.okWide Try.prog w r b0 74 v) (h : DataW.Trod enc Try.prog w base sp held 74 v d p) :
    ∃ o f : Int, v = .agg #[.int .i64 o, .int .i64 f] ∧ d = .agg [.lit (.int .i64 o), .lit (.int .i64 f)] ∧ p = [] ∧ (Lit.int .i64 o).wf = true ∧ (Lit.int .i64 f).wf = true := by
  obtain ⟨c0, c1, y0, y1, m, rfl, rfl, rfl, hy0, hy1⟩ := open_agg2 Try.underlying74 (by kernel_rfl) cellsDraw hv h
  obtain ⟨o, rfl, rfl, wo⟩ := read_int hy0
  obtain ⟨f, rfl, rfl, wf⟩ := read_int hy1
  exact ⟨o, f, rfl, rfl, rfl, wo, wf⟩

theorem shut_draw {o f : Int} (wo : (Lit.int .i64 o).wf = true) (wf : (Lit.int .i64 f).wf = true) :
    DataW.Trod enc Try.prog w base sp held 74 (.agg #[.int .i64 o, .int .i64 f]) (.agg [.lit (.int .i64 o), .lit (.int .i64 f)]) [] :=
  shut_agg2 (y0 := (.lit (.int .i64 o), [])) (y1 := (.lit (.int .i64 f), [])) Try.underlying74 (by kernel_rfl) cellsDraw ⟨1, by simp [DataW.trod, Try.underlying3, wo]⟩ ⟨1, by simp [DataW.trod, Try.underlying3, wf]⟩
set_option maxRecDepth 100000 in
/-- A fraction that came in. -/
theorem open_part {r : Reach} {b0 : Nat} {v : Value} {d : DataW H} {p : List MemPlace} (hv : Value.okWide Try.prog w r b0 31 v) (h : DataW.Trod enc Try.prog w base sp held 31 v d p) :
    ∃ o f : Int, v = .agg #[.int .i64 o, .int .i64 f] ∧ d = .agg [.lit (.int .i64 o), .lit (.int .i64 f)] ∧ p = [] ∧ (Lit.int .i64 o).wf = true ∧ (Lit.int .i64 f).wf = true := by
  obtain ⟨c0, c1, y0, y1, m, rfl, rfl, rfl, hy0, hy1⟩ := open_agg2 Try.underlying31 (by kernel_rfl) cellsPart hv h
  obtain ⟨o, rfl, rfl, wo⟩ := read_int hy0
  obtain ⟨f, rfl, rfl, wf⟩ := read_int hy1
  exact ⟨o, f, rfl, rfl, rfl, wo, wf⟩

theorem shut_part {o f : Int} (wo : (Lit.int .i64 o).wf = true) (wf : (Lit.int .i64 f).wf = true) :
    DataW.Trod enc Try.prog w base sp held 31 (.agg #[.int .i64 o, .int .i64 f]) (.agg [.lit (.int .i64 o), .lit (.int .i64 f)]) [] :=
  shut_agg2 (y0 := (.lit (.int .i64 o), [])) (y1 := (.lit (.int .i64 f), [])) Try.underlying31 (by kernel_rfl) cellsPart ⟨1, by simp [DataW.trod, Try.underlying3, wo]⟩ ⟨1, by simp [DataW.trod, Try.underlying3, wf]⟩

set_option maxRecDepth 100000 in
/-- A rule that came in. -/
theorem open_rule {r : Reach} {b0 : Nat} {v : Value} {d : DataW H} {p : List MemPlace} (hv : Value.okWide Try.prog w r b0 27 v) (h : DataW.Trod enc Try.prog w base sp held 27 v d p) :
    ∃ o f : Int, v = .agg #[.int .i64 o, .int .i64 f] ∧ d = .agg [.lit (.int .i64 o), .lit (.int .i64 f)] ∧ p = [] ∧ (Lit.int .i64 o).wf = true ∧ (Lit.int .i64 f).wf = true := by
  obtain ⟨c0, c1, y0, y1, m, rfl, rfl, rfl, hy0, hy1⟩ := open_agg2 Try.underlying27 (by kernel_rfl) cellsRule hv h
  obtain ⟨o, rfl, rfl, wo⟩ := read_int hy0
  obtain ⟨f, rfl, rfl, wf⟩ := read_int hy1
  exact ⟨o, f, rfl, rfl, rfl, wo, wf⟩

theorem shut_rule {o f : Int} (wo : (Lit.int .i64 o).wf = true) (wf : (Lit.int .i64 f).wf = true) :
    DataW.Trod enc Try.prog w base sp held 27 (.agg #[.int .i64 o, .int .i64 f]) (.agg [.lit (.int .i64 o), .lit (.int .i64 f)]) [] :=
  shut_agg2 (y0 := (.lit (.int .i64 o), [])) (y1 := (.lit (.int .i64 f), [])) Try.underlying27 (by kernel_rfl) cellsRule ⟨1, by simp [DataW.trod, Try.underlying3, wo]⟩ ⟨1, by simp [DataW.trod, Try.underlying3, wf]⟩
end

end Go.Proofs.Ytmhhfopiaimhbaa
