/-
  TurnChanges returns true for every input: rolls with a note more, and without some, or the errors, are the specification's, the roll and the list stay, and what is returned shares no memory with them; each argument reads afterwards as it read before. There is no condition.
-/
import Derived.Test.YtijfdfplebbaaaaGreatRows
import Derived.Test.YtijfdfplebbaaaaGreatULaw
import Derived.ProofKit
import Derived.OpenShut
import Derived.Lib.SmallJoins
import Derived.Carry
import Derived.Deep.Slices
namespace Go.Proofs.YtijfdfplebbaaaaGreat
open Go.ChangeShapes Go.WideShapes Go.ChangeAt Go.RowKit Go.Joins Go.Deep

theorem laidOut : laidOutB Tryz.prog = true := by kernel_rfl
theorem cellsRoll : Tryz.prog.cellsOf 30 = 5 := by kernel_rfl
theorem cellsPress : Tryz.prog.cellsOf 25 = 2 := by kernel_rfl
theorem cellsRing : Tryz.prog.cellsOf 49 = 4 := by kernel_rfl
theorem cellsWeigh : Tryz.prog.cellsOf 53 = 5 := by kernel_rfl
theorem cellsShift : Tryz.prog.cellsOf 47 = 2 := by kernel_rfl
theorem cellsTNote : Tryz.prog.cellsOf 34 = 7 := by kernel_rfl
theorem cellsThing : Tryz.prog.cellsOf 32 = 3 := by kernel_rfl
theorem cellsSpan : Tryz.prog.cellsOf 51 = 2 := by kernel_rfl
theorem cellsInt : Tryz.prog.cellsOf 3 = 1 := by kernel_rfl
theorem cellsBool : Tryz.prog.cellsOf 4 = 1 := by kernel_rfl
theorem cellsInts : Tryz.prog.cellsOf 26 = 1 := by kernel_rfl
theorem cellsRings : Tryz.prog.cellsOf 22 = 1 := by kernel_rfl
theorem cellsWeighs : Tryz.prog.cellsOf 23 = 1 := by kernel_rfl
theorem cellsShifts : Tryz.prog.cellsOf 27 = 1 := by kernel_rfl
theorem cellsTNotes : Tryz.prog.cellsOf 28 = 1 := by kernel_rfl
theorem ownKnob_none : ownKnob Tryz.prog.godebug = none := by kernel_rfl
theorem array7 {a : Array Value} (h : a.size = 7) : ∃ x0 x1 x2 x3 x4 x5 x6, a = #[x0, x1, x2, x3, x4, x5, x6] := by
  obtain ⟨l⟩ := a
  have h' : l.length = 7 := h
  match l, h' with
  | [x0, x1, x2, x3, x4, x5, x6], _ => exact ⟨_, _, _, _, _, _, _, rfl⟩
theorem array5 {a : Array Value} (h : a.size = 5) : ∃ x0 x1 x2 x3 x4, a = #[x0, x1, x2, x3, x4] := by
  obtain ⟨l⟩ := a
  have h' : l.length = 5 := h
  match l, h' with
  | [x0, x1, x2, x3, x4], _ => exact ⟨_, _, _, _, _, rfl⟩
section
variable {H : Type} {enc : TypeId × Value → H} {w : World} {base : Nat} {sp : Nat → Bool} {held : Bool}
theorem read_int {n : Nat} {c : Value} {y : DataW H × List MemPlace} (h : DataW.trod enc Tryz.prog w base sp held n 3 [c] = some y) : ∃ a : Int, c = .int .i64 a ∧ y = (.lit (.int .i64 a), []) ∧ (Lit.int .i64 a).wf = true := by
  obtain ⟨a, e0, hy, wa⟩ := DataW.trod_int Tryz.underlying3 h
  refine ⟨a, ?_, hy, wa⟩
  simpa using e0
theorem read_bool {n : Nat} {c : Value} {y : DataW H × List MemPlace} (h : DataW.trod enc Tryz.prog w base sp held n 4 [c] = some y) : ∃ a : Bool, c = .bool a := by
  obtain ⟨a, e0, _⟩ := DataW.trod_bool Tryz.underlying4 h
  exact ⟨a, by simpa using e0⟩
theorem read_num {n : Nat} {cs : List Value} {y : DataW H × List MemPlace} (h : DataW.trod enc Tryz.prog w base sp held n 3 cs = some y) (hl : cs.length = 1) : ∃ x : Int, cs = [.int .i64 x] ∧ (Lit.int .i64 x).wf = true := by
  match cs, hl with
  | [c0], _ =>
    obtain ⟨x, rfl, _, w0⟩ := read_int h
    exact ⟨x, rfl, w0⟩
set_option maxRecDepth 100000 in
theorem open_nums {n : Nat} {c : Value} {y : DataW H × List MemPlace} (h : DataW.trod enc Tryz.prog w base sp held n 26 [c] = some y) :
    ∃ (l : Option Addr) (len cap : Nat) (F : Nat → Int), c = .slice l len cap ∧ (l = none → len = 0) ∧ len ≤ cap ∧ NumsAt w l (len * 1) F ∧ ∀ j, j < len * 1 → (Lit.int .i64 (F j)).wf = true := by
  rcases open_slice Tryz.underlying26 h with ⟨h0, _⟩ | ⟨a, len, cap, m, n', D, Pl, h0, _, hl, hm, hmm, _, hi⟩
  · simp at h0
    subst h0
    exact ⟨none, 0, 0, fun _ => 0, rfl, fun _ => rfl, by omega, fun j hj => by omega, fun j hj => by omega⟩
  · simp at h0
    subst h0
    have hlm : len ≤ m := by rw [hmm]; split <;> omega
    have key : ∀ j, j < len → ∃ x : Int, w.cell? (a.add (j * 1)) = some (.int .i64 x) ∧ (Lit.int .i64 x).wf = true := fun j hj => by
      obtain ⟨cs', hcs, ht⟩ := hi j (by omega)
      rw [cellsInt] at hcs
      obtain ⟨_, hcl, hat⟩ := World.cells?_some hcs
      obtain ⟨x, rfl, b0⟩ := read_num ht hcl
      have k0 := hat 0 (by simp)
      exact ⟨x, by simpa [Go.Deep.add_add] using k0, b0⟩
    by_cases hz : len = 0
    · subst hz
      exact ⟨some a, 0, cap, fun _ => 0, rfl, fun _ => rfl, by omega, fun j hj => by omega, fun j hj => by omega⟩
    · obtain ⟨b, off, spot⟩ := a
      have hspot : spot = none := by
        obtain ⟨x, hx, _⟩ := key 0 (by omega)
        simpa [Addr.add] using World.cell?_spot hx
      subst hspot
      have key2 : ∀ q, q < len * 1 → ∃ x : Int, w.cell? ⟨b, off + q, none⟩ = some (.int .i64 x) ∧ (Lit.int .i64 x).wf = true := fun q hq => by
        obtain ⟨x, h0, b0⟩ := key (q / 1) (by omega)
        rw [Go.WideShapes.add_plain] at h0
        have e : q = q / 1 * 1 := by omega
        exact ⟨x, by rw [e]; exact h0, b0⟩
      refine ⟨some ⟨b, off, none⟩, len, cap, fun j => if hj : j < len * 1 then (key2 j hj).choose else 0, rfl, (fun h => by cases h), hl, fun j hj => ⟨b, off, rfl, ?_⟩, fun j hj => ?_⟩
      · dsimp only
        rw [dif_pos hj]
        exact (key2 j hj).choose_spec.1
      · dsimp only
        rw [dif_pos hj]
        exact (key2 j hj).choose_spec.2
set_option maxRecDepth 100000 in
theorem read_ring {n : Nat} {cs : List Value} {y : DataW H × List MemPlace} (h : DataW.trod enc Tryz.prog w base sp held n 49 cs = some y) (hl : cs.length = 4) : ∃ x y z u : Int, cs = [.int .i64 x, .int .i64 y, .int .i64 z, .int .i64 u] ∧ (Lit.int .i64 x).wf = true ∧ (Lit.int .i64 y).wf = true ∧ (Lit.int .i64 z).wf = true ∧ (Lit.int .i64 u).wf = true := by
  match cs, hl with
  | [c0, c1, c2, c3], _ =>
    obtain ⟨xs, n', _, hx, _, hlen, hg⟩ := DataW.trod_struct Tryz.underlying49 h
    match xs, hlen with
    | [y0, y1, y2, y3], _ =>
      have g0 := hg 0 _ rfl
      have g1 := hg 1 _ rfl
      have g2 := hg 2 _ rfl
      have g3 := hg 3 _ rfl
      simp [cellsInt] at g0 g1 g2 g3
      obtain ⟨x, rfl, _, w0⟩ := read_int g0
      obtain ⟨y, rfl, _, w1⟩ := read_int g1
      obtain ⟨z, rfl, _, w2⟩ := read_int g2
      obtain ⟨u, rfl, _, w3⟩ := read_int g3
      exact ⟨x, y, z, u, rfl, w0, w1, w2, w3⟩
set_option maxRecDepth 100000 in
theorem open_rings {n : Nat} {c : Value} {y : DataW H × List MemPlace} (h : DataW.trod enc Tryz.prog w base sp held n 22 [c] = some y) :
    ∃ (l : Option Addr) (len cap : Nat) (F : Nat → Int), c = .slice l len cap ∧ (l = none → len = 0) ∧ len ≤ cap ∧ NumsAt w l (len * 4) F ∧ ∀ j, j < len * 4 → (Lit.int .i64 (F j)).wf = true := by
  rcases open_slice Tryz.underlying22 h with ⟨h0, _⟩ | ⟨a, len, cap, m, n', D, Pl, h0, _, hl, hm, hmm, _, hi⟩
  · simp at h0
    subst h0
    exact ⟨none, 0, 0, fun _ => 0, rfl, fun _ => rfl, by omega, fun j hj => by omega, fun j hj => by omega⟩
  · simp at h0
    subst h0
    have hlm : len ≤ m := by rw [hmm]; split <;> omega
    have key : ∀ j, j < len → ∃ x y z u : Int, w.cell? (a.add (j * 4)) = some (.int .i64 x) ∧ w.cell? (a.add (j * 4 + 1)) = some (.int .i64 y) ∧ w.cell? (a.add (j * 4 + 2)) = some (.int .i64 z) ∧ w.cell? (a.add (j * 4 + 3)) = some (.int .i64 u) ∧ (Lit.int .i64 x).wf = true ∧ (Lit.int .i64 y).wf = true ∧ (Lit.int .i64 z).wf = true ∧ (Lit.int .i64 u).wf = true := fun j hj => by
      obtain ⟨cs', hcs, ht⟩ := hi j (by omega)
      rw [cellsRing] at hcs
      obtain ⟨_, hcl, hat⟩ := World.cells?_some hcs
      obtain ⟨x, y, z, u, rfl, b0, b1, b2, b3⟩ := read_ring ht hcl
      have k0 := hat 0 (by simp)
      have k1 := hat 1 (by simp)
      have k2 := hat 2 (by simp)
      have k3 := hat 3 (by simp)
      exact ⟨x, y, z, u, by simpa [Go.Deep.add_add] using k0, by simpa [Go.Deep.add_add] using k1, by simpa [Go.Deep.add_add] using k2, by simpa [Go.Deep.add_add] using k3, b0, b1, b2, b3⟩
    by_cases hz : len = 0
    · subst hz
      exact ⟨some a, 0, cap, fun _ => 0, rfl, fun _ => rfl, by omega, fun j hj => by omega, fun j hj => by omega⟩
    · obtain ⟨b, off, spot⟩ := a
      have hspot : spot = none := by
        obtain ⟨x, _, _, _, hx, _⟩ := key 0 (by omega)
        simpa [Addr.add] using World.cell?_spot hx
      subst hspot
      have key2 : ∀ q, q < len * 4 → ∃ x : Int, w.cell? ⟨b, off + q, none⟩ = some (.int .i64 x) ∧ (Lit.int .i64 x).wf = true := fun q hq => by
        obtain ⟨x, y, z, u, h0, h1, h2, h3, b0, b1, b2, b3⟩ := key (q / 4) (by omega)
        rw [Go.WideShapes.add_plain] at h0 h1 h2 h3
        have hq3 : q = q / 4 * 4 ∨ q = q / 4 * 4 + 1 ∨ q = q / 4 * 4 + 2 ∨ q = q / 4 * 4 + 3 := by omega
        rcases hq3 with e | e | e | e
        · exact ⟨x, by rw [e]; exact h0, b0⟩
        · exact ⟨y, by rw [e]; exact h1, b1⟩
        · exact ⟨z, by rw [e]; exact h2, b2⟩
        · exact ⟨u, by rw [e]; exact h3, b3⟩
      refine ⟨some ⟨b, off, none⟩, len, cap, fun j => if hj : j < len * 4 then (key2 j hj).choose else 0, rfl, (fun h => by cases h), hl, fun j hj => ⟨b, off, rfl, ?_⟩, fun j hj => ?_⟩
      · dsimp only
        rw [dif_pos hj]
        exact (key2 j hj).choose_spec.1
      · dsimp only
        rw [dif_pos hj]
        exact (key2 j hj).choose_spec.2
set_option maxRecDepth 100000 in
theorem read_span {n : Nat} {cs : List Value} {y : DataW H × List MemPlace} (h : DataW.trod enc Tryz.prog w base sp held n 51 cs = some y) (hl : cs.length = 2) : ∃ x y : Int, cs = [.int .i64 x, .int .i64 y] ∧ (Lit.int .i64 x).wf = true ∧ (Lit.int .i64 y).wf = true := by
  match cs, hl with
  | [c0, c1], _ =>
    obtain ⟨xs, n', _, hx, _, hlen, hg⟩ := DataW.trod_struct Tryz.underlying51 h
    match xs, hlen with
    | [y0, y1], _ =>
      have g0 := hg 0 _ rfl
      have g1 := hg 1 _ rfl
      simp [cellsInt] at g0 g1
      obtain ⟨x, rfl, _, w0⟩ := read_int g0
      obtain ⟨y, rfl, _, w1⟩ := read_int g1
      exact ⟨x, y, rfl, w0, w1⟩
set_option maxRecDepth 100000 in
theorem read_note {n : Nat} {cs : List Value} {y : DataW H × List MemPlace} (h : DataW.trod enc Tryz.prog w base sp held n 53 cs = some y) (hl : cs.length = 5) : ∃ x y z u v : Int, cs = [.int .i64 x, .int .i64 y, .int .i64 z, .int .i64 u, .int .i64 v] ∧ (Lit.int .i64 x).wf = true ∧ (Lit.int .i64 y).wf = true ∧ (Lit.int .i64 z).wf = true ∧ (Lit.int .i64 u).wf = true ∧ (Lit.int .i64 v).wf = true := by
  match cs, hl with
  | [c0, c1, c2, c3, c4], _ =>
    obtain ⟨xs, n', _, hx, _, hlen, hg⟩ := DataW.trod_struct Tryz.underlying53 h
    match xs, hlen with
    | [y0, y1, y2, y3], _ =>
      have g0 := hg 0 _ rfl
      have g1 := hg 1 _ rfl
      have g2 := hg 2 _ rfl
      have g3 := hg 3 _ rfl
      simp [cellsInt, cellsSpan] at g0 g1 g2 g3
      obtain ⟨x, rfl, _, w0⟩ := read_int g0
      obtain ⟨y, rfl, _, w1⟩ := read_int g1
      obtain ⟨z, rfl, _, w2⟩ := read_int g2
      obtain ⟨u, v, hc, w3, w4⟩ := read_span g3 rfl
      simp at hc
      obtain ⟨rfl, rfl⟩ := hc
      exact ⟨x, y, z, u, v, rfl, w0, w1, w2, w3, w4⟩
set_option maxRecDepth 100000 in
theorem open_notes {n : Nat} {c : Value} {y : DataW H × List MemPlace} (h : DataW.trod enc Tryz.prog w base sp held n 23 [c] = some y) :
    ∃ (l : Option Addr) (len cap : Nat) (F : Nat → Int), c = .slice l len cap ∧ (l = none → len = 0) ∧ len ≤ cap ∧ NumsAt w l (len * 5) F ∧ ∀ j, j < len * 5 → (Lit.int .i64 (F j)).wf = true := by
  rcases open_slice Tryz.underlying23 h with ⟨h0, _⟩ | ⟨a, len, cap, m, n', D, Pl, h0, _, hl, hm, hmm, _, hi⟩
  · simp at h0
    subst h0
    exact ⟨none, 0, 0, fun _ => 0, rfl, fun _ => rfl, by omega, fun j hj => by omega, fun j hj => by omega⟩
  · simp at h0
    subst h0
    have hlm : len ≤ m := by rw [hmm]; split <;> omega
    have key : ∀ j, j < len → ∃ x y z u v : Int, w.cell? (a.add (j * 5)) = some (.int .i64 x) ∧ w.cell? (a.add (j * 5 + 1)) = some (.int .i64 y) ∧ w.cell? (a.add (j * 5 + 2)) = some (.int .i64 z) ∧ w.cell? (a.add (j * 5 + 3)) = some (.int .i64 u) ∧ w.cell? (a.add (j * 5 + 4)) = some (.int .i64 v) ∧ (Lit.int .i64 x).wf = true ∧ (Lit.int .i64 y).wf = true ∧ (Lit.int .i64 z).wf = true ∧ (Lit.int .i64 u).wf = true ∧ (Lit.int .i64 v).wf = true := fun j hj => by
      obtain ⟨cs', hcs, ht⟩ := hi j (by omega)
      rw [cellsWeigh] at hcs
      obtain ⟨_, hcl, hat⟩ := World.cells?_some hcs
      obtain ⟨x, y, z, u, v, rfl, b0, b1, b2, b3, b4⟩ := read_note ht hcl
      have k0 := hat 0 (by simp)
      have k1 := hat 1 (by simp)
      have k2 := hat 2 (by simp)
      have k3 := hat 3 (by simp)
      have k4 := hat 4 (by simp)
      exact ⟨x, y, z, u, v, by simpa [Go.Deep.add_add] using k0, by simpa [Go.Deep.add_add] using k1, by simpa [Go.Deep.add_add] using k2, by simpa [Go.Deep.add_add] using k3, by simpa [Go.Deep.add_add] using k4, b0, b1, b2, b3, b4⟩
    by_cases hz : len = 0
    · subst hz
      exact ⟨some a, 0, cap, fun _ => 0, rfl, fun _ => rfl, by omega, fun j hj => by omega, fun j hj => by omega⟩
    · obtain ⟨b, off, spot⟩ := a
      have hspot : spot = none := by
        obtain ⟨x, _, _, _, _, hx, _⟩ := key 0 (by omega)
        simpa [Addr.add] using World.cell?_spot hx
      subst hspot
      have key2 : ∀ q, q < len * 5 → ∃ x : Int, w.cell? ⟨b, off + q, none⟩ = some (.int .i64 x) ∧ (Lit.int .i64 x).wf = true := fun q hq => by
        obtain ⟨x, y, z, u, v, h0, h1, h2, h3, h4, b0, b1, b2, b3, b4⟩ := key (q / 5) (by omega)
        rw [Go.WideShapes.add_plain] at h0 h1 h2 h3 h4
        have hq3 : q = q / 5 * 5 ∨ q = q / 5 * 5 + 1 ∨ q = q / 5 * 5 + 2 ∨ q = q / 5 * 5 + 3 ∨ q = q / 5 * 5 + 4 := by omega
        rcases hq3 with e | e | e | e | e
        · exact ⟨x, by rw [e]; exact h0, b0⟩
        · exact ⟨y, by rw [e]; exact h1, b1⟩
        · exact ⟨z, by rw [e]; exact h2, b2⟩
        · exact ⟨u, by rw [e]; exact h3, b3⟩
        · exact ⟨v, by rw [e]; exact h4, b4⟩
      refine ⟨some ⟨b, off, none⟩, len, cap, fun j => if hj : j < len * 5 then (key2 j hj).choose else 0, rfl, (fun h => by cases h), hl, fun j hj => ⟨b, off, rfl, ?_⟩, fun j hj => ?_⟩
      · dsimp only
        rw [dif_pos hj]
        exact (key2 j hj).choose_spec.1
      · dsimp only
        rw [dif_pos hj]
        exact (key2 j hj).choose_spec.2
set_option maxRecDepth 100000 in
theorem read_shift {n : Nat} {cs : List Value} {y : DataW H × List MemPlace} (h : DataW.trod enc Tryz.prog w base sp held n 47 cs = some y) (hl : cs.length = 2) : ∃ x y : Int, cs = [.int .i64 x, .int .i64 y] ∧ (Lit.int .i64 x).wf = true ∧ (Lit.int .i64 y).wf = true := by
  match cs, hl with
  | [c0, c1], _ =>
    obtain ⟨xs, n', _, hx, _, hlen, hg⟩ := DataW.trod_struct Tryz.underlying47 h
    match xs, hlen with
    | [y0, y1], _ =>
      have g0 := hg 0 _ rfl
      have g1 := hg 1 _ rfl
      simp [cellsInt] at g0 g1
      obtain ⟨x, rfl, _, w0⟩ := read_int g0
      obtain ⟨y, rfl, _, w1⟩ := read_int g1
      exact ⟨x, y, rfl, w0, w1⟩
set_option maxRecDepth 100000 in
theorem open_shifts {n : Nat} {c : Value} {y : DataW H × List MemPlace} (h : DataW.trod enc Tryz.prog w base sp held n 27 [c] = some y) :
    ∃ (l : Option Addr) (len cap : Nat) (F : Nat → Int), c = .slice l len cap ∧ (l = none → len = 0) ∧ len ≤ cap ∧ NumsAt w l (len * 2) F ∧ ∀ j, j < len * 2 → (Lit.int .i64 (F j)).wf = true := by
  rcases open_slice Tryz.underlying27 h with ⟨h0, _⟩ | ⟨a, len, cap, m, n', D, Pl, h0, _, hl, hm, hmm, _, hi⟩
  · simp at h0
    subst h0
    exact ⟨none, 0, 0, fun _ => 0, rfl, fun _ => rfl, by omega, fun j hj => by omega, fun j hj => by omega⟩
  · simp at h0
    subst h0
    have hlm : len ≤ m := by rw [hmm]; split <;> omega
    have key : ∀ j, j < len → ∃ x y : Int, w.cell? (a.add (j * 2)) = some (.int .i64 x) ∧ w.cell? (a.add (j * 2 + 1)) = some (.int .i64 y) ∧ (Lit.int .i64 x).wf = true ∧ (Lit.int .i64 y).wf = true := fun j hj => by
      obtain ⟨cs', hcs, ht⟩ := hi j (by omega)
      rw [cellsShift] at hcs
      obtain ⟨_, hcl, hat⟩ := World.cells?_some hcs
      obtain ⟨x, y, rfl, b0, b1⟩ := read_shift ht hcl
      have k0 := hat 0 (by simp)
      have k1 := hat 1 (by simp)
      exact ⟨x, y, by simpa [Go.Deep.add_add] using k0, by simpa [Go.Deep.add_add] using k1, b0, b1⟩
    by_cases hz : len = 0
    · subst hz
      exact ⟨some a, 0, cap, fun _ => 0, rfl, fun _ => rfl, by omega, fun j hj => by omega, fun j hj => by omega⟩
    · obtain ⟨b, off, spot⟩ := a
      have hspot : spot = none := by
        obtain ⟨x, _, hx, _⟩ := key 0 (by omega)
        simpa [Addr.add] using World.cell?_spot hx
      subst hspot
      have key2 : ∀ q, q < len * 2 → ∃ x : Int, w.cell? ⟨b, off + q, none⟩ = some (.int .i64 x) ∧ (Lit.int .i64 x).wf = true := fun q hq => by
        obtain ⟨x, y, h0, h1, b0, b1⟩ := key (q / 2) (by omega)
        rw [Go.WideShapes.add_plain] at h0 h1
        have hq3 : q = q / 2 * 2 ∨ q = q / 2 * 2 + 1 := by omega
        rcases hq3 with e | e
        · exact ⟨x, by rw [e]; exact h0, b0⟩
        · exact ⟨y, by rw [e]; exact h1, b1⟩
      refine ⟨some ⟨b, off, none⟩, len, cap, fun j => if hj : j < len * 2 then (key2 j hj).choose else 0, rfl, (fun h => by cases h), hl, fun j hj => ⟨b, off, rfl, ?_⟩, fun j hj => ?_⟩
      · dsimp only
        rw [dif_pos hj]
        exact (key2 j hj).choose_spec.1
      · dsimp only
        rw [dif_pos hj]
        exact (key2 j hj).choose_spec.2
set_option maxRecDepth 100000 in
theorem read_thing {n : Nat} {cs : List Value} {y : DataW H × List MemPlace} (h : DataW.trod enc Tryz.prog w base sp held n 32 cs = some y) (hl : cs.length = 3) : ∃ (m p : Int) (b : Bool), cs = [.int .i64 m, .int .i64 p, .bool b] := by
  match cs, hl with
  | [c0, c1, c2], _ =>
    obtain ⟨xs, n', _, hx, _, hlen, hg⟩ := DataW.trod_struct Tryz.underlying32 h
    match xs, hlen with
    | [y0, y1, y2], _ =>
      have g0 := hg 0 _ rfl
      have g1 := hg 1 _ rfl
      have g2 := hg 2 _ rfl
      simp [cellsInt, cellsBool] at g0 g1 g2
      obtain ⟨m, rfl, _, _⟩ := read_int g0
      obtain ⟨p, rfl, _, _⟩ := read_int g1
      obtain ⟨b, rfl⟩ := read_bool g2
      exact ⟨m, p, b, rfl⟩
set_option maxRecDepth 100000 in
theorem read_tnote {n : Nat} {cs : List Value} {y : DataW H × List MemPlace} (h : DataW.trod enc Tryz.prog w base sp held n 34 cs = some y) (hl : cs.length = 7) : ∃ x : NoteX, cs = [.int .i64 x.n, .int .i64 x.m1, .int .i64 x.p1, .bool x.b1, .int .i64 x.m2, .int .i64 x.p2, .bool x.b2] := by
  match cs, hl with
  | [c0, c1, c2, c3, c4, c5, c6], _ =>
    obtain ⟨xs, n', _, hx, _, hlen, hg⟩ := DataW.trod_struct Tryz.underlying34 h
    match xs, hlen with
    | [y0, y1, y2], _ =>
      have g0 := hg 0 _ rfl
      have g1 := hg 1 _ rfl
      have g2 := hg 2 _ rfl
      simp [cellsInt, cellsThing] at g0 g1 g2
      obtain ⟨n0, rfl, _, _⟩ := read_int g0
      obtain ⟨m1, p1, b1, hc1⟩ := read_thing g1 rfl
      obtain ⟨m2, p2, b2, hc2⟩ := read_thing g2 rfl
      simp at hc1 hc2
      obtain ⟨rfl, rfl, rfl⟩ := hc1
      obtain ⟨rfl, rfl, rfl⟩ := hc2
      exact ⟨⟨n0, m1, p1, b1, m2, p2, b2⟩, rfl⟩
set_option maxRecDepth 100000 in
/-- Notes that came in. -/
theorem open_tnotes {n : Nat} {c : Value} {y : DataW H × List MemPlace} (h : DataW.trod enc Tryz.prog w base sp held n 28 [c] = some y) :
    ∃ (l : Option Addr) (len cap : Nat) (N : Nat → NoteX), c = .slice l len cap ∧ (l = none → len = 0) ∧ len ≤ cap ∧ NotesAt w l len N := by
  rcases open_slice Tryz.underlying28 h with ⟨h0, _⟩ | ⟨a, len, cap, m, n', D, Pl, h0, _, hl, hm, hmm, _, hi⟩
  · simp at h0
    subst h0
    exact ⟨none, 0, 0, fun _ => ⟨0, 0, 0, false, 0, 0, false⟩, rfl, fun _ => rfl, by omega, fun j hj => by omega⟩
  · simp at h0
    subst h0
    have hlm : len ≤ m := by rw [hmm]; split <;> omega
    have key : ∀ j, j < len → ∃ x : NoteX, w.cell? (a.add (j * 7)) = some (.int .i64 x.n) ∧ w.cell? (a.add (j * 7 + 1)) = some (.int .i64 x.m1) ∧ w.cell? (a.add (j * 7 + 2)) = some (.int .i64 x.p1) ∧ w.cell? (a.add (j * 7 + 3)) = some (.bool x.b1) ∧ w.cell? (a.add (j * 7 + 4)) = some (.int .i64 x.m2) ∧ w.cell? (a.add (j * 7 + 5)) = some (.int .i64 x.p2) ∧ w.cell? (a.add (j * 7 + 6)) = some (.bool x.b2) := fun j hj => by
      obtain ⟨cs', hcs, ht⟩ := hi j (by omega)
      rw [cellsTNote] at hcs
      obtain ⟨_, hcl, hat⟩ := World.cells?_some hcs
      obtain ⟨x, rfl⟩ := read_tnote ht hcl
      have k0 := hat 0 (by simp)
      have k1 := hat 1 (by simp)
      have k2 := hat 2 (by simp)
      have k3 := hat 3 (by simp)
      have k4 := hat 4 (by simp)
      have k5 := hat 5 (by simp)
      have k6 := hat 6 (by simp)
      exact ⟨x, by simpa [Go.Deep.add_add] using k0, by simpa [Go.Deep.add_add] using k1, by simpa [Go.Deep.add_add] using k2, by simpa [Go.Deep.add_add] using k3, by simpa [Go.Deep.add_add] using k4, by simpa [Go.Deep.add_add] using k5, by simpa [Go.Deep.add_add] using k6⟩
    by_cases hz : len = 0
    · subst hz
      exact ⟨some a, 0, cap, fun _ => ⟨0, 0, 0, false, 0, 0, false⟩, rfl, fun _ => rfl, by omega, fun j hj => by omega⟩
    · obtain ⟨b, off, spot⟩ := a
      have hspot : spot = none := by
        obtain ⟨x, hx, _⟩ := key 0 (by omega)
        simpa [Addr.add] using World.cell?_spot hx
      subst hspot
      have key2 : ∀ q, q < len → ∃ x : NoteX, NoteC w b (off + q * 7) x := fun q hq => by
        obtain ⟨x, h0, h1, h2, h3, h4, h5, h6⟩ := key q hq
        rw [Go.WideShapes.add_plain] at h0 h1 h2 h3 h4 h5 h6
        exact ⟨x, h0, by rw [Nat.add_assoc]; exact h1, by rw [Nat.add_assoc]; exact h2, by rw [Nat.add_assoc]; exact h3, by rw [Nat.add_assoc]; exact h4, by rw [Nat.add_assoc]; exact h5, by rw [Nat.add_assoc]; exact h6⟩
      refine ⟨some ⟨b, off, none⟩, len, cap, fun j => if hj : j < len then (key2 j hj).choose else ⟨0, 0, 0, false, 0, 0, false⟩, rfl, (fun h => by cases h), hl, fun j hj => ⟨b, off, rfl, ?_⟩⟩
      dsimp only
      rw [dif_pos hj]
      exact (key2 j hj).choose_spec
set_option maxRecDepth 100000 in
/-- A note that came in. -/
theorem open_tnote {r : Reach} {b0 : Nat} {v : Value} {d : DataW H} {p : List MemPlace} (hv : Value.okWide Tryz.prog w r b0 34 v) (h : DataW.Trod enc Tryz.prog w base sp held 34 v d p) :
    ∃ x : NoteX, v = tnoteV x := by
  obtain ⟨cs, rfl, hsz⟩ := okWide_struct Tryz.underlying34 hv
  obtain ⟨c0, c1, c2, c3, c4, c5, c6, rfl⟩ := array7 (hsz.trans cellsTNote)
  obtain ⟨fuel, hf⟩ := h
  obtain ⟨x, hc⟩ := read_tnote hf rfl
  simp [Value.cells] at hc
  obtain ⟨rfl, rfl, rfl, rfl, rfl, rfl, rfl⟩ := hc
  exact ⟨x, rfl⟩
set_option maxRecDepth 100000 in
/-- A list of numbers that came in. -/
theorem open_list {r : Reach} {b0 : Nat} {v : Value} {d : DataW H} {p : List MemPlace} (hv : Value.okWide Tryz.prog w r b0 26 v) (h : DataW.Trod enc Tryz.prog w base sp held 26 v d p) :
    ∃ (l : Option Addr) (len cap : Nat) (F : Nat → Int), v = .slice l len cap ∧ (l = none → len = 0) ∧ NumsAt w l len F := by
  obtain ⟨a0, len0, cap0, rfl⟩ := okWide_slice Tryz.underlying26 hv
  obtain ⟨fuel, hf⟩ := h
  simp only [Value.cells] at hf
  obtain ⟨l, len, cap, F, e, h1, _, h3, _⟩ := open_nums hf
  exact ⟨l, len, cap, F, e, h1, by simpa using h3⟩
set_option maxRecDepth 100000 in
theorem read_press {n : Nat} {c0 c1 : Value} {y : DataW H × List MemPlace} (h : DataW.trod enc Tryz.prog w base sp held n 25 [c0, c1] = some y) : ∃ (a : Option Addr) (n c : Nat) (b : Option Addr) (m e : Nat) (F G : Nat → Int), c0 = .slice a n c ∧ c1 = .slice b m e ∧ (a = none → n = 0) ∧ (b = none → m = 0) ∧ NumsAt w a (n * 4) F ∧ NumsAt w b (m * 5) G := by
  obtain ⟨xs, n', _, hx, _, hlen, hg⟩ := DataW.trod_struct Tryz.underlying25 h
  match xs, hlen with
  | [y0, y1], _ =>
    have g0 := hg 0 _ rfl
    have g1 := hg 1 _ rfl
    simp [cellsRings, cellsWeighs] at g0 g1
    obtain ⟨a, n, c, F, rfl, h1, _, h3, _⟩ := open_rings g0
    obtain ⟨b, m, e, G, rfl, k1, _, k3, _⟩ := open_notes g1
    exact ⟨a, n, c, b, m, e, F, G, rfl, rfl, h1, k1, h3, k3⟩
set_option maxRecDepth 100000 in
/-- A roll that came in. -/
theorem open_roll {r : Reach} {b0 : Nat} {v : Value} {d : DataW H} {p : List MemPlace} (hv : Value.okWide Tryz.prog w r b0 30 v) (h : DataW.Trod enc Tryz.prog w base sp held 30 v d p) :
    ∃ (q : RollX) (D : RollD), v = rollV q ∧ RollNone q ∧ q.nn ≤ q.nc ∧ RollAt w q D := by
  obtain ⟨cs, rfl, hsz⟩ := okWide_struct Tryz.underlying30 hv
  obtain ⟨c0, c1, c2, c3, c4, rfl⟩ := array5 (hsz.trans cellsRoll)
  obtain ⟨fuel, hf⟩ := h
  obtain ⟨xs, n, _, hx, _, hlen, hg⟩ := DataW.trod_struct Tryz.underlying30 hf
  match xs, hlen with
  | [y0, y1, y2, y3], _ =>
    have g0 := hg 0 _ rfl
    have g1 := hg 1 _ rfl
    have g2 := hg 2 _ rfl
    have g3 := hg 3 _ rfl
    simp [Value.cells, cellsPress, cellsInts, cellsShifts, cellsTNotes] at g0 g1 g2 g3
    obtain ⟨pa, pn, pc, wa, wn, wc, P, G, rfl, rfl, n1, n2, hP, hG⟩ := read_press g0
    obtain ⟨ma, mn, mc, M, rfl, n3, _, hM, _⟩ := open_nums g1
    obtain ⟨sa, sn, sc, S, rfl, n4, _, hS, _⟩ := open_shifts g2
    obtain ⟨na, nn, nc, N, rfl, n5, hcap, hN⟩ := open_tnotes g3
    exact ⟨⟨pa, pn, pc, wa, wn, wc, ma, mn, mc, sa, sn, sc, na, nn, nc⟩, ⟨P, G, M, S, N⟩, rfl, ⟨n1, n2, n3, n4, n5⟩, hcap, ⟨hP, hG, by simpa using hM, hS, hN⟩⟩
end

set_option maxRecDepth 100000 in
theorem changes_lifted (os : Os) (started : os.Started) (H : Type) (enc : TypeId × Value → H) :
    ReturnsInHanded {} Tryz.checked os 3 .any (Rows.turnChangesSpec.pre6 enc Tryz.prog Tryz.f3 Rows.turnChangesRow.domain false) (Rows.turnChangesSpec.post enc Tryz.prog Tryz.f3 false true false false) := by
  refine returnsInHanded_of_change (C := Tryz.checked) ownKnob_none started (by kernel_rfl) Tryz.func3
    (ChangeSpec.witness6 (enc := enc) (C := Tryz.checked) false ⟨#[], #[.agg #[.slice none 0 0, .slice none 0 0, .slice none 0 0, .slice none 0 0, .slice none 0 0], .agg #[.int .i64 0, .int .i64 0, .int .i64 0, .bool false, .int .i64 0, .int .i64 0, .bool false], .slice none 0 0], []⟩ 8 (by kernel_rfl) (by kernel_rfl) (by kernel_rfl) (by kernel_rfl)) ?_
  intro W base args ds gs before hval0 hW _ _
  have hval : ∀ (j : Nat) t v, Tryz.f3.params[j]? = some t → args[j]? = some v → Value.okWide Tryz.prog W .any base t v := hval0
  have hW' := hW
  obtain ⟨pp, qq, hA0, hV, rfl, hfz, hnd⟩ := hW
  have hA : DataW.TrodAll enc Tryz.prog W 0 (fun _ => true) true Tryz.f3.params.toList args.toList ds pp := hA0
  rw [Tryz.params3] at hA hval
  obtain ⟨v0, vs0, d0, ds0, p0, q0, hargs, rfl, rfl, h0, r0⟩ := trodAll_cons hA
  obtain ⟨v1, vs1, d1, ds1, p1, q1, rfl, rfl, rfl, h1, r1⟩ := trodAll_cons r0
  obtain ⟨v2, vs2, d2, ds2, p2, q2, rfl, rfl, rfl, h2, r2⟩ := trodAll_cons r1
  obtain ⟨rfl, rfl, rfl⟩ := trodAll_nil r2
  obtain rfl : args = #[v0, v1, v2] := by cases args; simp_all
  obtain ⟨rfl, rfl⟩ := trodVars_none hV
  have h0k := h0
  have h1k := h1
  have h2k := h2
  obtain ⟨r, d, rfl, hnone, hcap, hR⟩ := open_roll (hval 0 30 v0 rfl rfl) h0
  obtain ⟨x, rfl⟩ := open_tnote (hval 1 34 v1 rfl rfl) h1
  obtain ⟨la, len, cap, L, rfl, hnl, hL⟩ := open_list (hval 2 26 v2 rfl rfl) h2
  clear hA0 hval0
  simp only [List.append_nil, List.nil_append] at hW'
  have hlt : ∀ x ∈ p0 ++ (p1 ++ p2), x.block < W.heap.size := fun x hx => by simpa using hW'.lt x hx
  refine (changes_walk r d x la len cap L hnone hcap hnl W hR hL).mono fun e W' ⟨he, hb⟩ => ?_
  subst he
  refine ⟨_, rfl, _, _, _, [], p0 ++ (p1 ++ p2), [], hW', ?_, ?_, rfl, hb.frame _, fun h => by cases h⟩
  · exact trodAll_mk1 (shut_bool Tryz.underlying4 true)
  · have hs : DataW.Trod enc Tryz.prog W' 0 (fun b => decide (b < W.heap.size)) true 30 (rollV r) d0 p0 := Below.trod laidOut (by kernel_rfl) (of_decide_eq_true (by kernel_rfl)) h0k hb (fun x hx => hlt x (List.mem_append_left _ hx))
    have hs1 : DataW.Trod enc Tryz.prog W' 0 (fun b => decide (b < W.heap.size)) true 34 (tnoteV x) d1 p1 := Below.trod laidOut (by kernel_rfl) (of_decide_eq_true (by kernel_rfl)) h1k hb (fun x hx => hlt x (List.mem_append_right _ (List.mem_append_left _ hx)))
    have hs2 : DataW.Trod enc Tryz.prog W' 0 (fun b => decide (b < W.heap.size)) true 26 (.slice la len cap) d2 p2 := Below.trod laidOut (by kernel_rfl) (of_decide_eq_true (by kernel_rfl)) h2k hb (fun x hx => hlt x (List.mem_append_right _ (List.mem_append_right _ hx)))
    have := trodAll_cons_mk hs (trodAll_cons_mk hs1 (trodAll_cons_mk hs2 trodAll_mk0))
    simp only [List.nil_append, List.append_nil] at this
    exact this

/-- TurnChanges returns true for every input. -/
theorem changes_holds : Rows.TurnChangesSaid :=
  OpenClaim.holds_of_wide 3 Tryz.f3 rfl rfl rfl rfl rfl rfl rfl ⟨rfl, rfl, rfl, rfl, rfl⟩ rfl rfl rfl rfl rfl (by kernel_rfl) Tryz.func3 (by kernel_rfl)
    (of_decide_eq_true (by kernel_rfl)) (by unfold Func.isWrapper; first | (rw [if_pos (by decide +kernel)]; kernel_rfl) | (rw [if_neg (by decide +kernel)]; exact ⟨rfl, rfl⟩))
    (fun os started H enc _ => changes_lifted os started H enc)

end Go.Proofs.YtijfdfplebbaaaaGreat
