/-
  SamplePays returns true for every input, and each argument reads afterwards as it read before. There is no condition.
-/
import Derived.Test.YteckpbghmhelpaaTellsProof
import Derived.Test.YteckpbghmhelpaaPays
import Derived.Carry
import Derived.Deep.Slices
namespace Go.Proofs.Yteckpbghmhelpaa
open Go.ChangeShapes Go.WideShapes Go.ChangeAt Go.RowKit Go.Joins Go.Deep

section
variable {H : Type} {enc : TypeId × Value → H} {w : World} {base : Nat} {sp : Nat → Bool} {held : Bool}

set_option maxRecDepth 100000 in
/-- Terms that came in. -/
theorem open_terms {r : Reach} {b0 : Nat} {v : Value} {d : DataW H} {p : List MemPlace} (hv : Value.okWide Try.prog w r b0 88 v) (h : DataW.Trod enc Try.prog w base sp held 88 v d p) :
    ∃ (l : Option Addr) (len cap : Nat) (F P : Nat → Int), v = .slice l len cap ∧ (l = none → len = 0) ∧ len ≤ 9223372036854775807 ∧ TermsAt w l len F P := by
  obtain ⟨a0, len0, cap0, rfl⟩ := okWide_slice Try.underlying88 hv
  obtain ⟨fuel, hf⟩ := h
  rcases open_slice Try.underlying88 hf with ⟨h0, _⟩ | ⟨a, len, cap, m, n, D, Pl, h0, _, hl, hm, hmm, _, hi⟩
  · simp [Value.cells] at h0
    obtain ⟨rfl, rfl, rfl⟩ := h0
    exact ⟨none, 0, 0, fun _ => 0, fun _ => 0, rfl, fun _ => rfl, by omega, fun j hj => absurd hj (Nat.not_lt_zero j)⟩
  · simp [Value.cells] at h0
    obtain ⟨rfl, rfl, rfl⟩ := h0
    have hmax : cap0 ≤ 9223372036854775807 := Nat.le_trans hm (by unfold maxLen; omega)
    have hlm : len0 ≤ m := by rw [hmm]; split <;> omega
    have hc : Try.prog.cellsOf 172 = 2 := by kernel_rfl
    have key : ∀ j, j < len0 → ∃ x y : Int, w.cell? (a.add (j * 2)) = some (.int .i64 x) ∧ w.cell? (a.add (j * 2 + 1)) = some (.int .i64 y) := fun j hj => by
      obtain ⟨cs', hcs, ht⟩ := hi j (by omega)
      rw [hc] at hcs
      obtain ⟨y0, y1, k, _, hlen, h1, h2⟩ := trod_struct2 Try.underlying172 ht
      obtain ⟨_, hcl, hat⟩ := World.cells?_some hcs
      rw [hc] at hlen
      match cs', hlen with
      | [u0, u1], _ =>
        simp [cellsInt] at h1 h2
        obtain ⟨x, rfl, _, _⟩ := read_int h1
        obtain ⟨y, rfl, _, _⟩ := read_int h2
        have k0 := hat 0 (by simp)
        have k1 := hat 1 (by simp)
        refine ⟨x, y, by simpa [Go.Deep.add_add] using k0, by simpa [Go.Deep.add_add] using k1⟩
    by_cases hz : len0 = 0
    · subst hz
      exact ⟨some a, 0, cap0, fun _ => 0, fun _ => 0, rfl, fun _ => rfl, by omega, fun j hj => absurd hj (Nat.not_lt_zero j)⟩
    · obtain ⟨b, off, spot⟩ := a
      have hspot : spot = none := by
        obtain ⟨x, _, hx, _⟩ := key 0 (by omega)
        simpa [Addr.add] using World.cell?_spot hx
      subst hspot
      have key2 : ∀ j, j < len0 → ∃ x y : Int, w.cell? ⟨b, off + j * 2, none⟩ = some (.int .i64 x) ∧ w.cell? ⟨b, off + j * 2 + 1, none⟩ = some (.int .i64 y) := fun j hj => by
        obtain ⟨x, y, h1, h2⟩ := key j hj
        rw [Go.WideShapes.add_plain] at h1 h2
        exact ⟨x, y, h1, by rw [← h2]; rfl⟩
      refine ⟨some ⟨b, off, none⟩, len0, cap0, fun j => if hj : j < len0 then (key2 j hj).choose else 0, fun j => if hj : j < len0 then (key2 j hj).choose_spec.choose else 0, rfl, (by intro h; cases h), by omega, fun j hj => ⟨b, off, rfl, ?_, ?_⟩⟩
      · dsimp only
        rw [dif_pos hj]
        exact (key2 j hj).choose_spec.choose_spec.1
      · dsimp only
        rw [dif_pos hj]
        exact (key2 j hj).choose_spec.choose_spec.2
end

set_option maxRecDepth 100000 in
theorem pays_lifted (os : Os) (started : os.Started) (H : Type) (enc : TypeId × Value → H) :
    ReturnsInHanded {} Try.checked os 6 .any (Rows.samplePaysSpec.pre6 enc Try.prog Try.f6 Rows.samplePaysRow.domain false) (Rows.samplePaysSpec.post enc Try.prog Try.f6 false true false false) := by
  refine returnsInHanded_of_change (C := Try.checked) ownKnob_none started (by kernel_rfl) Try.func6
    (ChangeSpec.witness6 (enc := enc) (C := Try.checked) false ⟨#[], #[.agg #[.int .i64 0, .int .i64 0, .int .i64 0], .int .i64 0, .agg #[.int .i64 0, .int .i64 0], .slice none 0 0, .int .i64 0, .int .i64 0, .int .i64 0], []⟩ 8 (by kernel_rfl) (by kernel_rfl) (by kernel_rfl) (by kernel_rfl)) ?_
  intro W base args ds gs before hval0 hW _ _
  have hval : ∀ (j : Nat) t v, Try.f6.params[j]? = some t → args[j]? = some v → Value.okWide Try.prog W .any base t v := hval0
  have hW' := hW
  obtain ⟨p, q, hA0, hV, rfl, hfz, hnd⟩ := hW
  have hA : DataW.TrodAll enc Try.prog W 0 (fun _ => true) true Try.f6.params.toList args.toList ds p := hA0
  rw [Try.params6] at hA hval
  obtain ⟨v0, vs0, d0, ds0, p0, q0, hargs, rfl, rfl, h0, r0⟩ := trodAll_cons hA
  obtain ⟨v1, vs1, d1, ds1, p1, q1, rfl, rfl, rfl, h1, r1⟩ := trodAll_cons r0
  obtain ⟨v2, vs2, d2, ds2, p2, q2, rfl, rfl, rfl, h2, r2⟩ := trodAll_cons r1
  obtain ⟨v3, vs3, d3, ds3, p3, q3, rfl, rfl, rfl, h3, r3⟩ := trodAll_cons r2
  obtain ⟨v4, vs4, d4, ds4, p4, q4, rfl, rfl, rfl, h4, r4⟩ := trodAll_cons r3
  obtain ⟨v5, vs5, d5, ds5, p5, q5, rfl, rfl, rfl, h5, r5⟩ := trodAll_cons r4
  obtain ⟨v6, vs6, d6, ds6, p6, q6, rfl, rfl, rfl, h6, r6⟩ := trodAll_cons r5
  obtain ⟨rfl, rfl, rfl⟩ := trodAll_nil r6
  obtain rfl : args = #[v0, v1, v2, v3, v4, v5, v6] := by cases args; simp_all
  obtain ⟨rfl, rfl⟩ := trodVars_none hV
  obtain ⟨b, lo, hi, rfl, rfl, rfl, wb, wl, wh⟩ := open_cargo (hval 0 25 v0 rfl rfl) h0
  obtain ⟨d, rfl, rfl, rfl, wd⟩ := open_int Try.underlying3 (hval 1 3 v1 rfl rfl) h1
  obtain ⟨o, f, rfl, rfl, rfl, wo, wf⟩ := open_draw (hval 2 27 v2 rfl rfl) h2
  obtain ⟨x, rfl, rfl, rfl, wx⟩ := open_int Try.underlying3 (hval 4 3 v4 rfl rfl) h4
  obtain ⟨y, rfl, rfl, rfl, wy⟩ := open_int Try.underlying3 (hval 5 3 v5 rfl rfl) h5
  obtain ⟨u, rfl, rfl, rfl, wu⟩ := open_int Try.underlying3 (hval 6 3 v6 rfl rfl) h6
  have h3k := h3
  obtain ⟨l, len, cap, F, P, rfl, hnil, hlen, hterms⟩ := open_terms (hval 3 88 v3 rfl rfl) h3
  clear hA0 hval0
  simp only [List.append_nil, List.nil_append] at hW'
  have hlt : ∀ x ∈ p3, x.block < W.heap.size := fun x hx => by simpa using hW'.lt x hx
  refine (pays_walk b lo hi d o f x y u l len cap F P hlen hnil W hterms).mono fun e W' ⟨he, hb⟩ => ?_
  subst he
  refine ⟨_, rfl, _, _, _, [], p3, [], hW', ?_, ?_, rfl, hb.frame _, fun h => by cases h⟩
  · exact trodAll_mk1 (shut_bool Try.underlying4 true)
  · have hs : DataW.Trod enc Try.prog W' 0 (fun b => decide (b < W.heap.size)) true 88 (.slice l len cap) d3 p3 := Below.trod laidOut (by kernel_rfl) (of_decide_eq_true (by kernel_rfl)) h3k hb hlt
    have := trodAll_cons_mk (shut_cargo wb wl wh) (trodAll_cons_mk (shut_int Try.underlying3 wd) (trodAll_cons_mk (shut_draw wo wf) (trodAll_cons_mk hs (trodAll_cons_mk (shut_int Try.underlying3 wx) (trodAll_cons_mk (shut_int Try.underlying3 wy) (trodAll_cons_mk (shut_int Try.underlying3 wu) trodAll_mk0))))))
    simp only [List.nil_append, List.append_nil] at this
    exact this

/-- SamplePays returns true for every input. -/
theorem pays_holds : Rows.SamplePaysSaid :=
  OpenClaim.holds_of_wide 6 Try.f6 rfl rfl rfl rfl rfl rfl rfl ⟨rfl, rfl, rfl, rfl, rfl⟩ rfl rfl rfl rfl rfl (by kernel_rfl) Try.func6 (by kernel_rfl)
    (of_decide_eq_true (by kernel_rfl)) (by unfold Func.isWrapper; first | (rw [if_pos (by decide +kernel)]; kernel_rfl) | (rw [if_neg (by decide +kernel)]; exact ⟨rfl, rfl⟩))
    (fun os started H enc _ => pays_lifted os started H enc)

end Go.Proofs.Yteckpbghmhelpaa
