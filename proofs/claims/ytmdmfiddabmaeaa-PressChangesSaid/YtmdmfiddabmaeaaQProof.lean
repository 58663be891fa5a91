/-
  PressChanges returns true for every input: presses with one weighing more, without some, and with parings that go elsewhere, or the errors, are the specification's, the press and the list stay, and what is returned shares no memory with them; each argument reads afterwards as it read before. There is no condition.
-/
import Derived.Test.YtmdmfiddabmaeaaRows
import Derived.Test.YtmdmfiddabmaeaaQLaw
import Derived.ProofKit
import Derived.OpenShut
import Derived.Lib.SmallJoins
import Derived.Carry
import Derived.Deep.Slices
namespace Go.Proofs.Ytmdmfiddabmaeaa
open Go.ChangeShapes Go.WideShapes Go.ChangeAt Go.RowKit Go.Joins Go.Deep

theorem laidOut : laidOutB Try.prog = true := by kernel_rfl
theorem cellsPress : Try.prog.cellsOf 25 = 2 := by kernel_rfl
theorem cellsRing : Try.prog.cellsOf 45 = 4 := by kernel_rfl
theorem cellsNote : Try.prog.cellsOf 29 = 5 := by kernel_rfl
theorem cellsSpan : Try.prog.cellsOf 27 = 2 := by kernel_rfl
theorem cellsInt : Try.prog.cellsOf 3 = 1 := by kernel_rfl
theorem ownKnob_none : ownKnob Try.prog.godebug = none := by kernel_rfl
theorem array5 {a : Array Value} (h : a.size = 5) : ∃ x0 x1 x2 x3 x4, a = #[x0, x1, x2, x3, x4] := by
  obtain ⟨l⟩ := a
  have h' : l.length = 5 := h
  match l, h' with
  | [x0, x1, x2, x3, x4], _ => exact ⟨_, _, _, _, _, rfl⟩
section
variable {H : Type} {enc : TypeId × Value → H} {w : World} {base : Nat} {sp : Nat → Bool} {held : Bool}
theorem read_int {n : Nat} {c : Value} {y : DataW H × List MemPlace} (h : DataW.trod enc Try.prog w base sp held n 3 [c] = some y) : ∃ a : Int, c = .int .i64 a ∧ y = (.lit (.int .i64 a), []) ∧ (Lit.int .i64 a).wf = true := by
  obtain ⟨a, e0, hy, wa⟩ := DataW.trod_int Try.underlying3 h
  refine ⟨a, ?_, hy, wa⟩
  simpa using e0
theorem read_num {n : Nat} {cs : List Value} {y : DataW H × List MemPlace} (h : DataW.trod enc Try.prog w base sp held n 3 cs = some y) (hl : cs.length = 1) : ∃ x : Int, cs = [.int .i64 x] ∧ (Lit.int .i64 x).wf = true := by
  match cs, hl with
  | [c0], _ =>
    obtain ⟨x, rfl, _, w0⟩ := read_int h
    exact ⟨x, rfl, w0⟩
set_option maxRecDepth 100000 in
theorem open_nums {n : Nat} {c : Value} {y : DataW H × List MemPlace} (h : DataW.trod enc Try.prog w base sp held n 30 [c] = some y) :
    ∃ (l : Option Addr) (len cap : Nat) (F : Nat → Int), c = .slice l len cap ∧ (l = none → len = 0) ∧ len ≤ cap ∧ NumsAt w l (len * 1) F ∧ ∀ j, j < len * 1 → (Lit.int .i64 (F j)).wf = true := by
  rcases open_slice Try.underlying30 h with ⟨h0, _⟩ | ⟨a, len, cap, m, n', D, Pl, h0, _, hl, hm, hmm, _, hi⟩
  · simp at h0
    subst h0
    exact ⟨none, 0, 0, fun _ => 0, rfl, fun _ => rfl, by omega, fun j hj => by omega, fun j hj => by omega⟩
  · simp at h0
    subst h0
    have hlm : len ≤ m := by rw [hmm]; split <;> omega
    have key : ∀ j, j < len → ∃ x : Int, w.cell? (a.add (j * 1)) = some (.int .i64 x) ∧ (Lit.int .i64 x).wf = true := fun j hj => by
      obtain ⟨cs', hcs, ht⟩ := hi j (by omega)
      rw [cellsInt] at hcs
      obtain ⟨_, hcl, hat⟩ := World.cells?_some hcs
      obtain ⟨x, rfl, b0⟩ := read_num ht hcl
      have k0 := hat 0 (by simp)
      exact ⟨x, by simpa [Go.Deep.add_add] using k0, b0⟩
    by_cases hz : len = 0
    · subst hz
      exact ⟨some a, 0, cap, fun _ => 0, rfl, fun _ => rfl, by omega, fun j hj => by omega, fun j hj => by omega⟩
    · obtain ⟨b, off, spot⟩ := a
      have hspot : spot = none := by
        obtain ⟨x, hx, _⟩ := key 0 (by omega)
        simpa [Addr.add] using World.cell?_spot hx
      subst hspot
      have key2 : ∀ q, q < len * 1 → ∃ x : Int, w.cell? ⟨b, off + q, none⟩ = some (.int .i64 x) ∧ (Lit.int .i64 x).wf = true := fun q hq => by
        obtain ⟨x, h0, b0⟩ := key (q / 1) (by omega)
        rw [Go.WideShapes.add_plain] at h0
        have e : q = q / 1 * 1 := by omega
        exact ⟨x, by rw [e]; exact h0, b0⟩
      refine ⟨some ⟨b, off, none⟩, len, cap, fun j => if hj : j < len * 1 then (key2 j hj).choose else 0, rfl, (fun h => by cases h), hl, fun j hj => ⟨b, off, rfl, ?_⟩, fun j hj => ?_⟩
      · dsimp only
        rw [dif_pos hj]
        exact (key2 j hj).choose_spec.1
      · dsimp only
        rw [dif_pos hj]
        exact (key2 j hj).choose_spec.2
set_option maxRecDepth 100000 in
theorem read_ring {n : Nat} {cs : List Value} {y : DataW H × List MemPlace} (h : DataW.trod enc Try.prog w base sp held n 45 cs = some y) (hl : cs.length = 4) : ∃ x y z u : Int, cs = [.int .i64 x, .int .i64 y, .int .i64 z, .int .i64 u] ∧ (Lit.int .i64 x).wf = true ∧ (Lit.int .i64 y).wf = true ∧ (Lit.int .i64 z).wf = true ∧ (Lit.int .i64 u).wf = true := by
  match cs, hl with
  | [c0, c1, c2, c3], _ =>
    obtain ⟨xs, n', _, hx, _, hlen, hg⟩ := DataW.trod_struct Try.underlying45 h
    match xs, hlen with
    | [y0, y1, y2, y3], _ =>
      have g0 := hg 0 _ rfl
      have g1 := hg 1 _ rfl
      have g2 := hg 2 _ rfl
      have g3 := hg 3 _ rfl
      simp [cellsInt] at g0 g1 g2 g3
      obtain ⟨x, rfl, _, w0⟩ := read_int g0
      obtain ⟨y, rfl, _, w1⟩ := read_int g1
      obtain ⟨z, rfl, _, w2⟩ := read_int g2
      obtain ⟨u, rfl, _, w3⟩ := read_int g3
      exact ⟨x, y, z, u, rfl, w0, w1, w2, w3⟩
set_option maxRecDepth 100000 in
theorem open_rings {n : Nat} {c : Value} {y : DataW H × List MemPlace} (h : DataW.trod enc Try.prog w base sp held n 22 [c] = some y) :
    ∃ (l : Option Addr) (len cap : Nat) (F : Nat → Int), c = .slice l len cap ∧ (l = none → len = 0) ∧ len ≤ cap ∧ NumsAt w l (len * 4) F ∧ ∀ j, j < len * 4 → (Lit.int .i64 (F j)).wf = true := by
  rcases open_slice Try.underlying22 h with ⟨h0, _⟩ | ⟨a, len, cap, m, n', D, Pl, h0, _, hl, hm, hmm, _, hi⟩
  · simp at h0
    subst h0
    exact ⟨none, 0, 0, fun _ => 0, rfl, fun _ => rfl, by omega, fun j hj => by omega, fun j hj => by omega⟩
  · simp at h0
    subst h0
    have hlm : len ≤ m := by rw [hmm]; split <;> omega
    have key : ∀ j, j < len → ∃ x y z u : Int, w.cell? (a.add (j * 4)) = some (.int .i64 x) ∧ w.cell? (a.add (j * 4 + 1)) = some (.int .i64 y) ∧ w.cell? (a.add (j * 4 + 2)) = some (.int .i64 z) ∧ w.cell? (a.add (j * 4 + 3)) = some (.int .i64 u) ∧ (Lit.int .i64 x).wf = true ∧ (Lit.int .i64 y).wf = true ∧ (Lit.int .i64 z).wf = true ∧ (Lit.int .i64 u).wf = true := fun j hj => by
      obtain ⟨cs', hcs, ht⟩ := hi j (by omega)
      rw [cellsRing] at hcs
      obtain ⟨_, hcl, hat⟩ := World.cells?_some hcs
      obtain ⟨x, y, z, u, rfl, b0, b1, b2, b3⟩ := read_ring ht hcl
      have k0 := hat 0 (by simp)
      have k1 := hat 1 (by simp)
      have k2 := hat 2 (by simp)
      have k3 := hat 3 (by simp)
      exact ⟨x, y, z, u, by simpa [Go.Deep.add_add] using k0, by simpa [Go.Deep.add_add] using k1, by simpa [Go.Deep.add_add] using k2, by simpa [Go.Deep.add_add] using k3, b0, b1, b2, b3⟩
    by_cases hz : len = 0
    · subst hz
      exact ⟨some a, 0, cap, fun _ => 0, rfl, fun _ => rfl, by omega, fun j hj => by omega, fun j hj => by omega⟩
    · obtain ⟨b, off, spot⟩ := a
      have hspot : spot = none := by
        obtain ⟨x, _, _, _, hx, _⟩ := key 0 (by omega)
        simpa [Addr.add] using World.cell?_spot hx
      subst hspot
      have key2 : ∀ q, q < len * 4 → ∃ x : Int, w.cell? ⟨b, off + q, none⟩ = some (.int .i64 x) ∧ (Lit.int .i64 x).wf = true := fun q hq => by
        obtain ⟨x, y, z, u, h0, h1, h2, h3, b0, b1, b2, b3⟩ := key (q / 4) (by omega)
        rw [Go.WideShapes.add_plain] at h0 h1 h2 h3
        have hq3 : q = q / 4 * 4 ∨ q = q / 4 * 4 + 1 ∨ q = q / 4 * 4 + 2 ∨ q = q / 4 * 4 + 3 := by omega
        rcases hq3 with e | e | e | e
        · exact ⟨x, by rw [e]; exact h0, b0⟩
        · exact ⟨y, by rw [e]; exact h1, b1⟩
        · exact ⟨z, by rw [e]; exact h2, b2⟩
        · exact ⟨u, by rw [e]; exact h3, b3⟩
      refine ⟨some ⟨b, off, none⟩, len, cap, fun j => if hj : j < len * 4 then (key2 j hj).choose else 0, rfl, (fun h => by cases h), hl, fun j hj => ⟨b, off, rfl, ?_⟩, fun j hj => ?_⟩
      · dsimp only
        rw [dif_pos hj]
        exact (key2 j hj).choose_spec.1
      · dsimp only
        rw [dif_pos hj]
        exact (key2 j hj).choose_spec.2
set_option maxRecDepth 100000 in
theorem read_span {n : Nat} {cs : List Value} {y : DataW H × List MemPlace} (h : DataW.trod enc Try.prog w base sp held n 27 cs = some y) (hl : cs.length = 2) : ∃ x y : Int, cs = [.int .i64 x, .int .i64 y] ∧ (Lit.int .i64 x).wf = true ∧ (Lit.int .i64 y).wf = true := by
  match cs, hl with
  | [c0, c1], _ =>
    obtain ⟨xs, n', _, hx, _, hlen, hg⟩ := DataW.trod_struct Try.underlying27 h
    match xs, hlen with
    | [y0, y1], _ =>
      have g0 := hg 0 _ rfl
      have g1 := hg 1 _ rfl
      simp [cellsInt] at g0 g1
      obtain ⟨x, rfl, _, w0⟩ := read_int g0
      obtain ⟨y, rfl, _, w1⟩ := read_int g1
      exact ⟨x, y, rfl, w0, w1⟩
set_option maxRecDepth 100000 in
theorem read_note {n : Nat} {cs : List Value} {y : DataW H × List MemPlace} (h : DataW.trod enc Try.prog w base sp held n 29 cs = some y) (hl : cs.length = 5) : ∃ x y z u v : Int, cs = [.int .i64 x, .int .i64 y, .int .i64 z, .int .i64 u, .int .i64 v] ∧ (Lit.int .i64 x).wf = true ∧ (Lit.int .i64 y).wf = true ∧ (Lit.int .i64 z).wf = true ∧ (Lit.int .i64 u).wf = true ∧ (Lit.int .i64 v).wf = true := by
  match cs, hl with
  | [c0, c1, c2, c3, c4], _ =>
    obtain ⟨xs, n', _, hx, _, hlen, hg⟩ := DataW.trod_struct Try.underlying29 h
    match xs, hlen with
    | [y0, y1, y2, y3], _ =>
      have g0 := hg 0 _ rfl
      have g1 := hg 1 _ rfl
      have g2 := hg 2 _ rfl
      have g3 := hg 3 _ rfl
      simp [cellsInt, cellsSpan] at g0 g1 g2 g3
      obtain ⟨x, rfl, _, w0⟩ := read_int g0
      obtain ⟨y, rfl, _, w1⟩ := read_int g1
      obtain ⟨z, rfl, _, w2⟩ := read_int g2
      obtain ⟨u, v, hc, w3, w4⟩ := read_span g3 rfl
      simp at hc
      obtain ⟨rfl, rfl⟩ := hc
      exact ⟨x, y, z, u, v, rfl, w0, w1, w2, w3, w4⟩
set_option maxRecDepth 100000 in
theorem open_notes {n : Nat} {c : Value} {y : DataW H × List MemPlace} (h : DataW.trod enc Try.prog w base sp held n 23 [c] = some y) :
    ∃ (l : Option Addr) (len cap : Nat) (F : Nat → Int), c = .slice l len cap ∧ (l = none → len = 0) ∧ len ≤ cap ∧ NumsAt w l (len * 5) F ∧ ∀ j, j < len * 5 → (Lit.int .i64 (F j)).wf = true := by
  rcases open_slice Try.underlying23 h with ⟨h0, _⟩ | ⟨a, len, cap, m, n', D, Pl, h0, _, hl, hm, hmm, _, hi⟩
  · simp at h0
    subst h0
    exact ⟨none, 0, 0, fun _ => 0, rfl, fun _ => rfl, by omega, fun j hj => by omega, fun j hj => by omega⟩
  · simp at h0
    subst h0
    have hlm : len ≤ m := by rw [hmm]; split <;> omega
    have key : ∀ j, j < len → ∃ x y z u v : Int, w.cell? (a.add (j * 5)) = some (.int .i64 x) ∧ w.cell? (a.add (j * 5 + 1)) = some (.int .i64 y) ∧ w.cell? (a.add (j * 5 + 2)) = some (.int .i64 z) ∧ w.cell? (a.add (j * 5 + 3)) = some (.int .i64 u) ∧ w.cell? (a.add (j * 5 + 4)) = some (.int .i64 v) ∧ (Lit.int .i64 x).wf = true ∧ (Lit.int .i64 y).wf = true ∧ (Lit.int .i64 z).wf = true ∧ (Lit.int .i64 u).wf = true ∧ (Lit.int .i64 v).wf = true := fun j hj => by
      obtain ⟨cs', hcs, ht⟩ := hi j (by omega)
      rw [cellsNote] at hcs
      obtain ⟨_, hcl, hat⟩ := World.cells?_some hcs
      obtain ⟨x, y, z, u, v, rfl, b0, b1, b2, b3, b4⟩ := read_note ht hcl
      have k0 := hat 0 (by simp)
      have k1 := hat 1 (by simp)
      have k2 := hat 2 (by simp)
      have k3 := hat 3 (by simp)
      have k4 := hat 4 (by simp)
      exact ⟨x, y, z, u, v, by simpa [Go.Deep.add_add] using k0, by simpa [Go.Deep.add_add] using k1, by simpa [Go.Deep.add_add] using k2, by simpa [Go.Deep.add_add] using k3, by simpa [Go.Deep.add_add] using k4, b0, b1, b2, b3, b4⟩
    by_cases hz : len = 0
    · subst hz
      exact ⟨some a, 0, cap, fun _ => 0, rfl, fun _ => rfl, by omega, fun j hj => by omega, fun j hj => by omega⟩
    · obtain ⟨b, off, spot⟩ := a
      have hspot : spot = none := by
        obtain ⟨x, _, _, _, _, hx, _⟩ := key 0 (by omega)
        simpa [Addr.add] using World.cell?_spot hx
      subst hspot
      have key2 : ∀ q, q < len * 5 → ∃ x : Int, w.cell? ⟨b, off + q, none⟩ = some (.int .i64 x) ∧ (Lit.int .i64 x).wf = true := fun q hq => by
        obtain ⟨x, y, z, u, v, h0, h1, h2, h3, h4, b0, b1, b2, b3, b4⟩ := key (q / 5) (by omega)
        rw [Go.WideShapes.add_plain] at h0 h1 h2 h3 h4
        have hq3 : q = q / 5 * 5 ∨ q = q / 5 * 5 + 1 ∨ q = q / 5 * 5 + 2 ∨ q = q / 5 * 5 + 3 ∨ q = q / 5 * 5 + 4 := by omega
        rcases hq3 with e | e | e | e | e
        · exact ⟨x, by rw [e]; exact h0, b0⟩
        · exact ⟨y, by rw [e]; exact h1, b1⟩
        · exact ⟨z, by rw [e]; exact h2, b2⟩
        · exact ⟨u, by rw [e]; exact h3, b3⟩
        · exact ⟨v, by rw [e]; exact h4, b4⟩
      refine ⟨some ⟨b, off, none⟩, len, cap, fun j => if hj : j < len * 5 then (key2 j hj).choose else 0, rfl, (fun h => by cases h), hl, fun j hj => ⟨b, off, rfl, ?_⟩, fun j hj => ?_⟩
      · dsimp only
        rw [dif_pos hj]
        exact (key2 j hj).choose_spec.1
      · dsimp only
        rw [dif_pos hj]
        exact (key2 j hj).choose_spec.2
set_option maxRecDepth 100000 in
/-- A weighing that came in. -/
theorem open_note {r : Reach} {b0 : Nat} {v : Value} {d : DataW H} {p : List MemPlace} (hv : Value.okWide Try.prog w r b0 29 v) (h : DataW.Trod enc Try.prog w base sp held 29 v d p) :
    ∃ x y z u t : Int, v = noteV x y z u t := by
  obtain ⟨cs, rfl, hsz⟩ := okWide_struct Try.underlying29 hv
  obtain ⟨c0, c1, c2, c3, c4, rfl⟩ := array5 (hsz.trans cellsNote)
  obtain ⟨fuel, hf⟩ := h
  obtain ⟨x, y, z, u, t, hc, _⟩ := read_note hf rfl
  simp [Value.cells] at hc
  obtain ⟨rfl, rfl, rfl, rfl, rfl⟩ := hc
  exact ⟨x, y, z, u, t, rfl⟩
set_option maxRecDepth 100000 in
/-- A list of numbers that came in. -/
theorem open_list {r : Reach} {b0 : Nat} {v : Value} {d : DataW H} {p : List MemPlace} (hv : Value.okWide Try.prog w r b0 30 v) (h : DataW.Trod enc Try.prog w base sp held 30 v d p) :
    ∃ (l : Option Addr) (len cap : Nat) (F : Nat → Int), v = .slice l len cap ∧ (l = none → len = 0) ∧ NumsAt w l len F ∧ ∀ j, j < len → (Lit.int .i64 (F j)).wf = true := by
  obtain ⟨a0, len0, cap0, rfl⟩ := okWide_slice Try.underlying30 hv
  obtain ⟨fuel, hf⟩ := h
  simp only [Value.cells] at hf
  obtain ⟨l, len, cap, F, e, h1, _, h3, h4⟩ := open_nums hf
  exact ⟨l, len, cap, F, e, h1, by simpa using h3, by simpa using h4⟩
set_option maxRecDepth 100000 in
/-- A press that came in. -/
theorem open_press {r : Reach} {b0 : Nat} {v : Value} {d : DataW H} {p : List MemPlace} (hv : Value.okWide Try.prog w r b0 25 v) (h : DataW.Trod enc Try.prog w base sp held 25 v d p) :
    ∃ (a : Option Addr) (n c : Nat) (b : Option Addr) (m e : Nat) (F G : Nat → Int), v = pressV a n c b m e ∧ (a = none → n = 0) ∧ (b = none → m = 0) ∧ n ≤ c ∧ m ≤ e ∧ NumsAt w a (n * 4) F ∧ NumsAt w b (m * 5) G ∧ ∀ j, j < m * 5 → (Lit.int .i64 (G j)).wf = true := by
  obtain ⟨c0, c1, y0, y1, k, rfl, rfl, rfl, hy0, hy1⟩ := open_agg2 Try.underlying25 (by kernel_rfl) cellsPress hv h
  obtain ⟨a, n, c, F, rfl, h1, h2, h3, _⟩ := open_rings hy0
  obtain ⟨b, m, e, G, rfl, g1, g2, g3, g4⟩ := open_notes hy1
  exact ⟨a, n, c, b, m, e, F, G, rfl, h1, g1, h2, g2, h3, g3, g4⟩
end

set_option maxRecDepth 100000 in
theorem changes_lifted (os : Os) (started : os.Started) (H : Type) (enc : TypeId × Value → H) :
    ReturnsInHanded {} Try.checked os 3 .any (Rows.pressChangesSpec.pre6 enc Try.prog Try.f3 Rows.pressChangesRow.domain false) (Rows.pressChangesSpec.post enc Try.prog Try.f3 false true false false) := by
  refine returnsInHanded_of_change (C := Try.checked) ownKnob_none started (by kernel_rfl) Try.func3
    (ChangeSpec.witness6 (enc := enc) (C := Try.checked) false ⟨#[], #[.agg #[.slice none 0 0, .slice none 0 0], .agg #[.int .i64 0, .int .i64 0, .int .i64 0, .int .i64 0, .int .i64 0], .slice none 0 0, .int .i64 0, .int .i64 0], []⟩ 8 (by kernel_rfl) (by kernel_rfl) (by kernel_rfl) (by kernel_rfl)) ?_
  intro W base args ds gs before hval0 hW _ _
  have hval : ∀ (j : Nat) t v, Try.f3.params[j]? = some t → args[j]? = some v → Value.okWide Try.prog W .any base t v := hval0
  have hW' := hW
  obtain ⟨pp, qq, hA0, hV, rfl, hfz, hnd⟩ := hW
  have hA : DataW.TrodAll enc Try.prog W 0 (fun _ => true) true Try.f3.params.toList args.toList ds pp := hA0
  rw [Try.params3] at hA hval
  obtain ⟨v0, vs0, d0, ds0, p0, q0, hargs, rfl, rfl, h0, r0⟩ := trodAll_cons hA
  obtain ⟨v1, vs1, d1, ds1, p1, q1, rfl, rfl, rfl, h1, r1⟩ := trodAll_cons r0
  obtain ⟨v2, vs2, d2, ds2, p2, q2, rfl, rfl, rfl, h2, r2⟩ := trodAll_cons r1
  obtain ⟨v3, vs3, d3, ds3, p3, q3, rfl, rfl, rfl, h3, r3⟩ := trodAll_cons r2
  obtain ⟨v4, vs4, d4, ds4, p4, q4, rfl, rfl, rfl, h4, r4⟩ := trodAll_cons r3
  obtain ⟨rfl, rfl, rfl⟩ := trodAll_nil r4
  obtain rfl : args = #[v0, v1, v2, v3, v4] := by cases args; simp_all
  obtain ⟨rfl, rfl⟩ := trodVars_none hV
  obtain ⟨k, rfl, rfl, rfl, wk⟩ := open_int Try.underlying3 (hval 3 3 v3 rfl rfl) h3
  obtain ⟨k2, rfl, rfl, rfl, wk2⟩ := open_int Try.underlying3 (hval 4 3 v4 rfl rfl) h4
  have h0k := h0
  have h1k := h1
  have h2k := h2
  obtain ⟨a, n, c, b, m, e0, F, G, rfl, hna, hnb, hnc, hme, hF, hG, wG⟩ := open_press (hval 0 25 v0 rfl rfl) h0
  obtain ⟨x, y, z, u, t, rfl⟩ := open_note (hval 1 29 v1 rfl rfl) h1
  obtain ⟨la, len, cap, L, rfl, hnl, hL, wL⟩ := open_list (hval 2 30 v2 rfl rfl) h2
  clear hA0 hval0
  simp only [List.append_nil, List.nil_append] at hW'
  have hlt : ∀ x ∈ p0 ++ (p1 ++ p2), x.block < W.heap.size := fun x hx => by simpa using hW'.lt x hx
  refine (changes_walk a n c b m e0 F G x y z u t la len cap L k k2 hnc hme hna hnb hnl (fun i hi => wG (i * 5) (by omega)) wL W hF hG hL).mono fun e W' ⟨he, hb⟩ => ?_
  subst he
  refine ⟨_, rfl, _, _, _, [], p0 ++ (p1 ++ p2), [], hW', ?_, ?_, rfl, hb.frame _, fun h => by cases h⟩
  · exact trodAll_mk1 (shut_bool Try.underlying4 true)
  · have hs : DataW.Trod enc Try.prog W' 0 (fun b => decide (b < W.heap.size)) true 25 (pressV a n c b m e0) d0 p0 := Below.trod laidOut (by kernel_rfl) (of_decide_eq_true (by kernel_rfl)) h0k hb (fun x hx => hlt x (List.mem_append_left _ hx))
    have hs1 : DataW.Trod enc Try.prog W' 0 (fun b => decide (b < W.heap.size)) true 29 (noteV x y z u t) d1 p1 := Below.trod laidOut (by kernel_rfl) (of_decide_eq_true (by kernel_rfl)) h1k hb (fun x hx => hlt x (List.mem_append_right _ (List.mem_append_left _ hx)))
    have hs2 : DataW.Trod enc Try.prog W' 0 (fun b => decide (b < W.heap.size)) true 30 (.slice la len cap) d2 p2 := Below.trod laidOut (by kernel_rfl) (of_decide_eq_true (by kernel_rfl)) h2k hb (fun x hx => hlt x (List.mem_append_right _ (List.mem_append_right _ hx)))
    have := trodAll_cons_mk hs (trodAll_cons_mk hs1 (trodAll_cons_mk hs2 (trodAll_cons_mk (shut_int Try.underlying3 wk) (trodAll_cons_mk (shut_int Try.underlying3 wk2) trodAll_mk0))))
    simp only [List.nil_append, List.append_nil] at this
    exact this

/-- PressChanges returns true for every input. -/
theorem changes_holds : Rows.PressChangesSaid :=
  OpenClaim.holds_of_wide 3 Try.f3 rfl rfl rfl rfl rfl rfl rfl ⟨rfl, rfl, rfl, rfl, rfl⟩ rfl rfl rfl rfl rfl (by kernel_rfl) Try.func3 (by kernel_rfl)
    (of_decide_eq_true (by kernel_rfl)) (by unfold Func.isWrapper; first | (rw [if_pos (by decide +kernel)]; kernel_rfl) | (rw [if_neg (by decide +kernel)]; exact ⟨rfl, rfl⟩))
    (fun os started H enc _ => changes_lifted os started H enc)

end Go.Proofs.Ytmdmfiddabmaeaa
