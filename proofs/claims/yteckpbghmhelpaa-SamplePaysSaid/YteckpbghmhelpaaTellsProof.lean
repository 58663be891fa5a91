/-
  SampleTells returns true for every input, and each argument reads afterwards as it read before. There is no condition.
-/
import Derived.Test.YteckpbghmhelpaaRows
import Derived.Test.YteckpbghmhelpaaTells
import Derived.ProofKit
import Derived.OpenShut
import Derived.Lib.SmallJoins
namespace Go.Proofs.Yteckpbghmhelpaa
open Go.ChangeShapes Go.WideShapes Go.ChangeAt Go.RowKit Go.Joins

theorem cellsCargo : Try.prog.cellsOf 25 = 3 := by kernel_rfl
theorem cellsSpan : Try.prog.cellsOf 23 = 2 := by kernel_rfl
theorem cellsDraw : Try.prog.cellsOf 27 = 2 := by kernel_rfl
theorem cellsInt : Try.prog.cellsOf 3 = 1 := by kernel_rfl
theorem ownKnob_none : ownKnob Try.prog.godebug = none := by kernel_rfl

section
variable {H : Type} {enc : TypeId × Value → H} {w : World} {base : Nat} {sp : Nat → Bool} {held : Bool}

theorem read_int {n : Nat} {c : Value} {y : DataW H × List MemPlace} (h : DataW.trod enc Try.prog w base sp held n 3 [c] = some y) : ∃ a : Int, c = .int .i64 a ∧ y = (.lit (.int .i64 a), []) ∧ (Lit.int .i64 a).wf = true := by
  obtain ⟨a, e0, hy, wa⟩ := DataW.trod_int Try.underlying3 h
  refine ⟨a, ?_, hy, wa⟩
  simpa using e0

set_option maxRecDepth 100000 in
/-- A cargo that came in. -/
theorem open_cargo {r : Reach} {b0 : Nat} {v : Value} {d : DataW H} {p : List MemPlace} (hv : Value.okWide Try.prog w r b0 25 v) (h : DataW.Trod enc Try.prog w base sp held 25 v d p) :
    ∃ b lo hi : Int, v = cargoV b lo hi ∧ d = .agg [.lit (.int .i64 b), .agg [.lit (.int .i64 lo), .lit (.int .i64 hi)]] ∧ p = [] ∧ (Lit.int .i64 b).wf = true ∧ (Lit.int .i64 lo).wf = true ∧ (Lit.int .i64 hi).wf = true := by
  obtain ⟨cs, rfl, hsz⟩ := okWide_struct Try.underlying25 hv
  obtain ⟨c0, c1, c2, rfl⟩ := array3 (hsz.trans cellsCargo)
  obtain ⟨fuel, hf⟩ := h
  obtain ⟨y0, y1, n, hx, _, h0, h1⟩ := trod_struct2 Try.underlying25 hf
  simp only [Prod.mk.injEq] at hx
  simp [Value.cells, cellsInt, cellsSpan] at h0 h1
  obtain ⟨b, rfl, rfl, wb⟩ := read_int h0
  obtain ⟨z0, z1, m, hz, _, k0, k1⟩ := trod_struct2 Try.underlying23 h1
  simp [cellsInt] at k0 k1
  obtain ⟨lo, rfl, rfl, wl⟩ := read_int k0
  obtain ⟨hi, rfl, rfl, wh⟩ := read_int k1
  obtain ⟨hx1, hx2⟩ := hx
  subst hz
  exact ⟨b, lo, hi, rfl, hx1, by simpa using hx2, wb, wl, wh⟩

theorem shut_cargo {b lo hi : Int} (wb : (Lit.int .i64 b).wf = true) (wl : (Lit.int .i64 lo).wf = true) (wh : (Lit.int .i64 hi).wf = true) :
    DataW.Trod enc Try.prog w base sp held 25 (cargoV b lo hi) (.agg [.lit (.int .i64 b), .agg [.lit (.int .i64 lo), .lit (.int .i64 hi)]]) [] := by
  refine ⟨3, ?_⟩
  have h0 : DataW.trod enc Try.prog w base sp held 2 3 [.int .i64 b] = some (.lit (.int .i64 b), []) := by simp [DataW.trod, Try.underlying3, wb]
  have h1 : DataW.trod enc Try.prog w base sp held 2 23 [.int .i64 lo, .int .i64 hi] = some (.agg [.lit (.int .i64 lo), .lit (.int .i64 hi)], []) := by
    have k0 : DataW.trod enc Try.prog w base sp held 1 3 [.int .i64 lo] = some (.lit (.int .i64 lo), []) := by simp [DataW.trod, Try.underlying3, wl]
    have k1 : DataW.trod enc Try.prog w base sp held 1 3 [.int .i64 hi] = some (.lit (.int .i64 hi), []) := by simp [DataW.trod, Try.underlying3, wh]
    have := trod_struct2_mk (enc := enc) (P := Try.prog) (w := w) (base := base) (spare := sp) (held := held) (n := 1) (cs := [.int .i64 lo, .int .i64 hi]) Try.underlying23 (by rw [cellsSpan]; rfl) (by simpa [cellsInt] using k0) (by simpa [cellsInt] using k1)
    simpa using this
  have := trod_struct2_mk (enc := enc) (P := Try.prog) (w := w) (base := base) (spare := sp) (held := held) (n := 2) (cs := [.int .i64 b, .int .i64 lo, .int .i64 hi]) Try.underlying25 (by rw [cellsCargo]; rfl) (by simpa [cellsInt] using h0) (by simpa [cellsSpan] using h1)
  simpa [Value.cells] using this

set_option maxRecDepth 100000 in
/-- A draw that came in. -/
theorem open_draw {r : Reach} {b0 : Nat} {v : Value} {d : DataW H} {p : List MemPlace} (hv : Value.okWide Try.prog w r b0 27 v) (h : DataW.Trod enc Try.prog w base sp held 27 v d p) :
    ∃ o f : Int, v = .agg #[.int .i64 o, .int .i64 f] ∧ d = .agg [.lit (.int .i64 o), .lit (.int .i64 f)] ∧ p = [] ∧ (Lit.int .i64 o).wf = true ∧ (Lit.int .i64 f).wf = true := by
  obtain ⟨c0, c1, y0, y1, m, rfl, rfl, rfl, hy0, hy1⟩ := open_agg2 Try.underlying27 (by kernel_rfl) cellsDraw hv h
  obtain ⟨o, rfl, rfl, wo⟩ := read_int hy0
  obtain ⟨f, rfl, rfl, wf⟩ := read_int hy1
  exact ⟨o, f, rfl, rfl, rfl, wo, wf⟩

theorem shut_draw {o f : Int} (wo : (Lit.int .i64 o).wf = true) (wf : (Lit.int .i64 f).wf = true) :
    DataW.Trod enc Try.prog w base sp held 27 (.agg #[.int .i64 o, .int .i64 f]) (.agg [.lit (.int .i64 o), .lit (.int .i64 f)]) [] :=
  shut_agg2 (y0 := (.lit (.int .i64 o), [])) (y1 := (.lit (.int .i64 f), [])) Try.underlying27 (by kernel_rfl) cellsDraw ⟨1, by simp [DataW.trod, Try.underlying3, wo]⟩ ⟨1, by simp [DataW.trod, Try.underlying3, wf]⟩
end

set_option maxRecDepth 100000 in
theorem tells_lifted (os : Os) (started : os.Started) (H : Type) (enc : TypeId × Value → H) :
    ReturnsInHanded {} Try.checked os 3 .any (Rows.sampleTellsSpec.pre6 enc Try.prog Try.f3 Rows.sampleTellsRow.domain false) (Rows.sampleTellsSpec.post enc Try.prog Try.f3 false true false false) := by
  refine returnsInHanded_of_change (C := Try.checked) ownKnob_none started (by kernel_rfl) Try.func3
    (ChangeSpec.witness6 (enc := enc) (C := Try.checked) false ⟨#[], #[.agg #[.int .i64 0, .int .i64 0, .int .i64 0], .int .i64 0, .agg #[.int .i64 0, .int .i64 0], .int .i64 0, .int .i64 0], []⟩ 8 (by kernel_rfl) (by kernel_rfl) (by kernel_rfl) (by kernel_rfl)) ?_
  intro W base args ds gs before hval0 hW _ _
  have hval : ∀ (j : Nat) t v, Try.f3.params[j]? = some t → args[j]? = some v → Value.okWide Try.prog W .any base t v := hval0
  have hW' := hW
  obtain ⟨p, q, hA0, hV, rfl, hfz, hnd⟩ := hW
  have hA : DataW.TrodAll enc Try.prog W 0 (fun _ => true) true Try.f3.params.toList args.toList ds p := hA0
  rw [Try.params3] at hA hval
  obtain ⟨v0, vs0, d0, ds0, p0, q0, hargs, rfl, rfl, h0, r0⟩ := trodAll_cons hA
  obtain ⟨v1, vs1, d1, ds1, p1, q1, rfl, rfl, rfl, h1, r1⟩ := trodAll_cons r0
  obtain ⟨v2, vs2, d2, ds2, p2, q2, rfl, rfl, rfl, h2, r2⟩ := trodAll_cons r1
  obtain ⟨v3, vs3, d3, ds3, p3, q3, rfl, rfl, rfl, h3, r3⟩ := trodAll_cons r2
  obtain ⟨v4, vs4, d4, ds4, p4, q4, rfl, rfl, rfl, h4, r4⟩ := trodAll_cons r3
  obtain ⟨rfl, rfl, rfl⟩ := trodAll_nil r4
  obtain rfl : args = #[v0, v1, v2, v3, v4] := by cases args; simp_all
  obtain ⟨rfl, rfl⟩ := trodVars_none hV
  obtain ⟨b, lo, hi, rfl, rfl, rfl, wb, wl, wh⟩ := open_cargo (hval 0 25 v0 rfl rfl) h0
  obtain ⟨d, rfl, rfl, rfl, wd⟩ := open_int Try.underlying3 (hval 1 3 v1 rfl rfl) h1
  obtain ⟨o, f, rfl, rfl, rfl, wo, wf⟩ := open_draw (hval 2 27 v2 rfl rfl) h2
  obtain ⟨n, rfl, rfl, rfl, wn⟩ := open_int Try.underlying3 (hval 3 3 v3 rfl rfl) h3
  obtain ⟨m, rfl, rfl, rfl, wm⟩ := open_int Try.underlying3 (hval 4 3 v4 rfl rfl) h4
  clear hA0 hval0
  simp only [List.append_nil] at hW'
  refine (tells_walk b lo hi d o f n m W).mono fun e W' ⟨he, hb⟩ => ?_
  subst he
  refine ⟨_, rfl, _, _, _, [], [], [], hW', ?_, ?_, rfl, hb.frame _, fun h => by cases h⟩
  · exact trodAll_mk1 (shut_bool Try.underlying4 true)
  · exact trodAll_cons_mk (shut_cargo wb wl wh) (trodAll_cons_mk (shut_int Try.underlying3 wd) (trodAll_cons_mk (shut_draw wo wf) (trodAll_cons_mk (shut_int Try.underlying3 wn) (trodAll_cons_mk (shut_int Try.underlying3 wm) trodAll_mk0))))

/-- SampleTells returns true for every input. -/
theorem tells_holds : Rows.SampleTellsSaid :=
  OpenClaim.holds_of_wide 3 Try.f3 rfl rfl rfl rfl rfl rfl rfl ⟨rfl, rfl, rfl, rfl, rfl⟩ rfl rfl rfl rfl rfl (by kernel_rfl) Try.func3 (by kernel_rfl)
    (of_decide_eq_true (by kernel_rfl)) (by unfold Func.isWrapper; first | (rw [if_pos (by decide +kernel)]; kernel_rfl) | (rw [if_neg (by decide +kernel)]; exact ⟨rfl, rfl⟩))
    (fun os started H enc _ => tells_lifted os started H enc)

end Go.Proofs.Yteckpbghmhelpaa
