/-
  TankTables returns true for every input: whether a tank is valid, what it holds at an eighth, the eighth of some pints, and the pints of a dip, or the errors, are the specification's, and the tank stays; each argument reads afterwards as it read before. There is no condition.
-/
import Derived.Test.YtpgpebgimmaobaaRows
import Derived.Test.YtpgpebgimmaobaaTTables
import Derived.ProofKit
import Derived.OpenShut
import Derived.Lib.SmallJoins
import Derived.Carry
import Derived.Deep.Slices
namespace Go.Proofs.Ytpgpebgimmaobaa
open Go.ChangeShapes Go.WideShapes Go.ChangeAt Go.RowKit Go.Joins Go.Deep

theorem laidOut : laidOutB Try.prog = true := by kernel_rfl
theorem cellsTank : Try.prog.cellsOf 24 = 3 := by kernel_rfl
theorem cellsSpan : Try.prog.cellsOf 26 = 2 := by kernel_rfl
theorem cellsInt : Try.prog.cellsOf 3 = 1 := by kernel_rfl
theorem cellsInts : Try.prog.cellsOf 22 = 1 := by kernel_rfl
theorem ownKnob_none : ownKnob Try.prog.godebug = none := by kernel_rfl
section
variable {H : Type} {enc : TypeId × Value → H} {w : World} {base : Nat} {sp : Nat → Bool} {held : Bool}
theorem read_int {n : Nat} {c : Value} {y : DataW H × List MemPlace} (h : DataW.trod enc Try.prog w base sp held n 3 [c] = some y) : ∃ a : Int, c = .int .i64 a ∧ y = (.lit (.int .i64 a), []) ∧ (Lit.int .i64 a).wf = true := by
  obtain ⟨a, e0, hy, wa⟩ := DataW.trod_int Try.underlying3 h
  refine ⟨a, ?_, hy, wa⟩
  simpa using e0
set_option maxRecDepth 100000 in
/-- A span that came in. -/
theorem open_span {r : Reach} {b0 : Nat} {v : Value} {d : DataW H} {p : List MemPlace} (hv : Value.okWide Try.prog w r b0 26 v) (h : DataW.Trod enc Try.prog w base sp held 26 v d p) :
    ∃ x y : Int, v = spanV x y := by
  obtain ⟨c0, c1, y0, y1, m, rfl, rfl, rfl, hy0, hy1⟩ := open_agg2 Try.underlying26 (by kernel_rfl) cellsSpan hv h
  obtain ⟨x, rfl, rfl, _⟩ := read_int hy0
  obtain ⟨y, rfl, rfl, _⟩ := read_int hy1
  exact ⟨x, y, rfl⟩
/-- Numbers that came in. -/
theorem open_nums {n : Nat} {c : Value} {y : DataW H × List MemPlace} (h : DataW.trod enc Try.prog w base sp held n 22 [c] = some y) :
    ∃ (l : Option Addr) (len cap : Nat) (F : Nat → Int), c = .slice l len cap ∧ len ≤ 9223372036854775807 ∧ NumsAt w l len F := by
  rcases open_slice Try.underlying22 h with ⟨h0, _⟩ | ⟨a, len, cap, m, n', D, Pl, h0, _, hl, hm, hmm, _, hi⟩
  · simp at h0
    subst h0
    exact ⟨none, 0, 0, fun _ => 0, rfl, by omega, fun j hj => absurd hj (Nat.not_lt_zero j)⟩
  · simp at h0
    subst h0
    have hmax : cap ≤ 9223372036854775807 := Nat.le_trans hm (by unfold maxLen; omega)
    have hlm : len ≤ m := by rw [hmm]; split <;> omega
    have key : ∀ j, j < len → ∃ x : Int, w.cell? (a.add j) = some (.int .i64 x) := fun j hj => by
      obtain ⟨cs', hcs, ht⟩ := hi j (by omega)
      rw [cellsInt] at hcs
      obtain ⟨_, hcl, hat⟩ := World.cells?_some hcs
      match cs', hcl with
      | [u], _ =>
        obtain ⟨x, rfl, _, _⟩ := read_int ht
        have k0 := hat 0 (by simp)
        exact ⟨x, by simpa [Go.Deep.add_add] using k0⟩
    by_cases hz : len = 0
    · subst hz
      exact ⟨some a, 0, cap, fun _ => 0, rfl, by omega, fun j hj => absurd hj (Nat.not_lt_zero j)⟩
    · obtain ⟨b, off, spot⟩ := a
      have hspot : spot = none := by
        obtain ⟨x, hx⟩ := key 0 (by omega)
        simpa [Addr.add] using World.cell?_spot hx
      subst hspot
      have key2 : ∀ j, j < len → ∃ x : Int, w.cell? ⟨b, off + j, none⟩ = some (.int .i64 x) := fun j hj => by
        obtain ⟨x, h1⟩ := key j hj
        rw [Go.WideShapes.add_plain] at h1
        exact ⟨x, h1⟩
      refine ⟨some ⟨b, off, none⟩, len, cap, fun j => if hj : j < len then (key2 j hj).choose else 0, rfl, by omega, fun j hj => ⟨b, off, rfl, ?_⟩⟩
      dsimp only
      rw [dif_pos hj]
      exact (key2 j hj).choose_spec
set_option maxRecDepth 100000 in
/-- A tank that came in. -/
theorem open_tank {r : Reach} {b0 : Nat} {v : Value} {d : DataW H} {p : List MemPlace} (hv : Value.okWide Try.prog w r b0 24 v) (h : DataW.Trod enc Try.prog w base sp held 24 v d p) :
    ∃ (l : Option Addr) (len cap : Nat) (F : Nat → Int) (lk ft : Int), v = tankV l len cap lk ft ∧ len ≤ 9223372036854775807 ∧ NumsAt w l len F := by
  obtain ⟨cs, rfl, hsz⟩ := okWide_struct Try.underlying24 hv
  obtain ⟨c0, c1, c2, rfl⟩ := array3 (hsz.trans cellsTank)
  obtain ⟨fuel, hf⟩ := h
  obtain ⟨xs, n, _, hx, _, hlen, hg⟩ := DataW.trod_struct Try.underlying24 hf
  match xs, hlen with
  | [y0, y1, y2], _ =>
    have g0 := hg 0 _ rfl
    have g1 := hg 1 _ rfl
    have g2 := hg 2 _ rfl
    simp [Value.cells, cellsInt, cellsInts] at g0 g1 g2
    obtain ⟨lk, rfl, _, _⟩ := read_int g1
    obtain ⟨ft, rfl, _, _⟩ := read_int g2
    obtain ⟨l, len, cap, F, rfl, hl, hn⟩ := open_nums g0
    exact ⟨l, len, cap, F, lk, ft, rfl, hl, hn⟩
end

set_option maxRecDepth 100000 in
theorem tables_lifted (os : Os) (started : os.Started) (H : Type) (enc : TypeId × Value → H) :
    ReturnsInHanded {} Try.checked os 3 .any (Rows.tankTablesSpec.pre6 enc Try.prog Try.f3 Rows.tankTablesRow.domain false) (Rows.tankTablesSpec.post enc Try.prog Try.f3 false true false false) := by
  refine returnsInHanded_of_change (C := Try.checked) ownKnob_none started (by kernel_rfl) Try.func3
    (ChangeSpec.witness6 (enc := enc) (C := Try.checked) false ⟨#[], #[.agg #[.slice none 0 0, .int .i64 0, .int .i64 0], .int .i64 0, .int .i64 0, .agg #[.int .i64 0, .int .i64 0]], []⟩ 8 (by kernel_rfl) (by kernel_rfl) (by kernel_rfl) (by kernel_rfl)) ?_
  intro W base args ds gs before hval0 hW _ _
  have hval : ∀ (j : Nat) t v, Try.f3.params[j]? = some t → args[j]? = some v → Value.okWide Try.prog W .any base t v := hval0
  have hW' := hW
  obtain ⟨pp, qq, hA0, hV, rfl, hfz, hnd⟩ := hW
  have hA : DataW.TrodAll enc Try.prog W 0 (fun _ => true) true Try.f3.params.toList args.toList ds pp := hA0
  rw [Try.params3] at hA hval
  obtain ⟨v0, vs0, d0, ds0, p0, q0, hargs, rfl, rfl, h0, r0⟩ := trodAll_cons hA
  obtain ⟨v1, vs1, d1, ds1, p1, q1, rfl, rfl, rfl, h1, r1⟩ := trodAll_cons r0
  obtain ⟨v2, vs2, d2, ds2, p2, q2, rfl, rfl, rfl, h2, r2⟩ := trodAll_cons r1
  obtain ⟨v3, vs3, d3, ds3, p3, q3, rfl, rfl, rfl, h3, r3⟩ := trodAll_cons r2
  obtain ⟨rfl, rfl, rfl⟩ := trodAll_nil r3
  obtain rfl : args = #[v0, v1, v2, v3] := by cases args; simp_all
  obtain ⟨rfl, rfl⟩ := trodVars_none hV
  obtain ⟨e, rfl, rfl, rfl, we⟩ := open_int Try.underlying3 (hval 1 3 v1 rfl rfl) h1
  obtain ⟨p, rfl, rfl, rfl, wp⟩ := open_int Try.underlying3 (hval 2 3 v2 rfl rfl) h2
  have h0k := h0
  have h3k := h3
  obtain ⟨l, len, cap, F, lk, ft, rfl, hlen, hnums⟩ := open_tank (hval 0 24 v0 rfl rfl) h0
  obtain ⟨x, y, rfl⟩ := open_span (hval 3 26 v3 rfl rfl) h3
  clear hA0 hval0
  simp only [List.append_nil, List.nil_append] at hW'
  have hlt : ∀ x ∈ p0 ++ p3, x.block < W.heap.size := fun x hx => by simpa using hW'.lt x hx
  refine (tables_walk l len cap F lk ft e p x y hlen W hnums).mono fun e W' ⟨he, hb⟩ => ?_
  subst he
  refine ⟨_, rfl, _, _, _, [], p0 ++ p3, [], hW', ?_, ?_, rfl, hb.frame _, fun h => by cases h⟩
  · exact trodAll_mk1 (shut_bool Try.underlying4 true)
  · have hs : DataW.Trod enc Try.prog W' 0 (fun b => decide (b < W.heap.size)) true 24 (tankV l len cap lk ft) d0 p0 := Below.trod laidOut (by kernel_rfl) (of_decide_eq_true (by kernel_rfl)) h0k hb (fun x hx => hlt x (List.mem_append_left _ hx))
    have hs3 : DataW.Trod enc Try.prog W' 0 (fun b => decide (b < W.heap.size)) true 26 (spanV x y) d3 p3 := Below.trod laidOut (by kernel_rfl) (of_decide_eq_true (by kernel_rfl)) h3k hb (fun x hx => hlt x (List.mem_append_right _ hx))
    have := trodAll_cons_mk hs (trodAll_cons_mk (shut_int Try.underlying3 we) (trodAll_cons_mk (shut_int Try.underlying3 wp) (trodAll_cons_mk hs3 trodAll_mk0)))
    simp only [List.nil_append, List.append_nil] at this
    exact this

/-- TankTables returns true for every input. -/
theorem tables_holds : Rows.TankTablesSaid :=
  OpenClaim.holds_of_wide 3 Try.f3 rfl rfl rfl rfl rfl rfl rfl ⟨rfl, rfl, rfl, rfl, rfl⟩ rfl rfl rfl rfl rfl (by kernel_rfl) Try.func3 (by kernel_rfl)
    (of_decide_eq_true (by kernel_rfl)) (by unfold Func.isWrapper; first | (rw [if_pos (by decide +kernel)]; kernel_rfl) | (rw [if_neg (by decide +kernel)]; exact ⟨rfl, rfl⟩))
    (fun os started H enc _ => tables_lifted os started H enc)

end Go.Proofs.Ytpgpebgimmaobaa
